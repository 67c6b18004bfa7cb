/-
  Facts about the program that the statement's proof uses. Condition: none beyond each theorem's own hypotheses.
-/
import Derived.Test.YtpifdbphmnifdaaGreatDoorYa16
set_option maxRecDepth 100000
set_option maxHeartbeats 8000000
namespace Go.Proofs.YtpifdbphmnifdaaGreatDoor
open Go.RowKit
theorem rinfo_st:(Tryz.prog.info? 112).map (fun i=>(i.zero,i.size,i.bytes)) = some (some (.agg #[.string ⟨#[]⟩,.int .i64 0,.bool false,.int .i64 0]),4,40):=by kernel_rfl
abbrev c_st (F_:Fm) (g:List Bs):Array Value:=#[.string (str (g.getD 0 [])),.int .i64 (F_.num (g.getD 1 [])).1,.bool (flg (g.getD 2 [])).1,.int .i64 (F_.num (g.getD 3 [])).1]
abbrev x_st (F_:Fm) (g:List Bs):S13.St:=((g.getD 0 []),(F_.num (g.getD 1 [])).1,(flg (g.getD 2 [])).1,(F_.num (g.getD 3 [])).1)
abbrev e_st (F_:Fm) (g:List Bs):Int:=(fe1 (fe1 (fe1 (fe1 0 (if (g.drop 0).length = 4 then 0 else 1)) (F_.num (g.getD 1 [])).2) (flg (g.getD 2 [])).2) (F_.num (g.getD 3 [])).2)
theorem ad_st (F_:Fm) {w0:World} {F:Nat} {vs:List Value} {ts:List Tng} {g:List Bs} {W:World} (H:Rec w0 F vs ts g W) (FO:Fo F_ w0) {v0:Value} {l:List S13.St} (tb:Tbl w0 vs ts 0 112 4 v0 l.length (fl S13.se l)) {B:Nat} (ixx:Ix vs ts 0 B (l.map fun x=>x.1)) :
  Calls Tryz.prog 83 #[.pointer (some ⟨F,0,none⟩)] W fun r w'=>r = .returned (.tuple #[])∧∃ v' v,Gst w0 F 80 ((set2 vs v' (e_st F_ g)).set 2 v) ((ts.set 11 (tIdx B ((l.map fun (x:S13.St)=>x.1) ++ [g.getD 0 []]))).set 0 (tRow w0.heap.size ⟨112,4,v,l.length + 1,fl S13.se (l ++ [(x_st F_ g)])⟩)) w':=by
 suffices h:∀ Z:World→Prop,(∀ v' v w',Gst w0 F 80 ((set2 vs v' (e_st F_ g)).set 2 v) ((ts.set 11 (tIdx B ((l.map fun (x:S13.St)=>x.1) ++ [g.getD 0 []]))).set 0 (tRow w0.heap.size ⟨112,4,v,l.length + 1,fl S13.se (l ++ [(x_st F_ g)])⟩)) w'→Z w')→Calls Tryz.prog 83 #[.pointer (some ⟨F,0,none⟩)] W fun r w'=>r = .returned (.tuple #[])∧Z w' from h _ (fun v' v _ h=>⟨v',v,h⟩)
 intro Z hZ
 have HZ:=Lib.hid hZ
 clear hZ
 obtain ⟨vq,pq⟩:=H.prd
 have C0:=Lib.hid (expect_any (F:=F) (vs:=vs) (g:=g) (W0:=W) 4 0 0 H.len W (Nx.start pq))
 clear pq
 go_enter Tryz.func83,Tryz.ntmps83
 go_wp2_with fail
 refine C0.out.mono ?_
 rintro r w1 ⟨rfl,n1,-⟩
 have N1:=Lib.hid (n1.on (Below.refl _ _).drew)
 clear n1 C0
 go_wp2_with fail
 refine startT (S:=fun X=>True) _ 19 rfl (by kernel_rfl) (by kernel_rfl) (by kernel_rfl) (bitsL 19 0) (by kernel_rfl) trivial (fun _=>?_)
 refine takesT (L:=[(0,7,pt F 0),(1,8,pt F 0),(2,9,pt F 0),(4,11,pt F 0),(5,12,pt F 0),(6,13,pt F 0),(8,15,pt F 0),(9,16,pt F 0),(10,17,pt F 0),(12,19,pt F 0),(13,20,pt F 0),(14,21,pt F 0)]) (.q (.q (.q (.q (.q (.q (.q (.q (.q (.q (.q (.q .nil)))))))))))) [0,1,2,4,5,6,8,9,10,12,13,14] rfl rfl (by kernel_rfl) (fun _ _ _ _ _ h=>h) trivial ?_
 refine runsT (j:=17) (dj:=2) (v:=fun X=>.pointer (some ⟨X.heap.size,0,none⟩)) (m:=fun X=>X.alloc (.cells #[.string ⟨#[]⟩,.int .i64 0,.bool false,.int .i64 0] 112 (0,0))) (L:=Lq W (.cells #[.string ⟨#[]⟩,.int .i64 0,.bool false,.int .i64 0] 112 (0,0))) (G:=Nx F vs g W 0 (fe1 0 (if (g.drop 0).length = 4 then 0 else 1))) (I:=[3,7,11,15,16]) (.rd 10 (.string (str (g.getD 0 []))) rfl rfl (by decide) (fun _=>rfl) (fun _=>by kernel_rfl) (fun _ _=>by kernel_rfl) (text_any 0 _) (fun X h=>trivial) (.rd 14 (.int .i64 (F_.num (g.getD 1 [])).1) rfl rfl (by decide) (fun _=>rfl) (fun _=>by kernel_rfl) (fun _ _=>by kernel_rfl) (number_any F_ 1 _ (fun w h=>FO.num _ (H.fld _) w (H.low h))) (fun X h=>trivial) (.rd 18 (.bool (flg (g.getD 2 [])).1) rfl rfl (by decide) (fun _=>rfl) (fun _=>by kernel_rfl) (fun _ _=>by kernel_rfl) (flag_any 2 _) (fun X h=>trivial) (.rd 22 (.int .i64 (F_.num (g.getD 3 [])).1) rfl rfl (by decide) (fun _=>rfl) (fun _=>by kernel_rfl) (fun _ _=>by kernel_rfl) (number_any F_ 3 _ (fun w h=>FO.num _ (H.fld _) w (H.low h))) (fun X h=>trivial) (.step 23 (.agg (c_st F_ g)) rfl rfl (by decide) (fun _=>rfl) (fun _=>by kernel_rfl) (fun _ _=>by kernel_rfl) (Nx.new _) (fun X h=>trivial) (.nil (Nx.new _) (fun X h=>trivial))))))) rfl rfl (fun _=>rfl) (fun _ _=>by kernel_rfl) rfl (by kernel_rfl) N1.out ?_
 rintro q w2 n2 ⟨b,rfl,hb0,hb1⟩
 obtain ⟨v',G2⟩:=H.up n2
 have G3:=H.st.boxed G2 hb0 hb1 (c_st F_ g)
 refine storeT (i:=18) _ rfl (by kernel_rfl) rfl rfl rfl (exec_store_row 112 (.tmp 2) (.tmp 23) (by kernel_rfl) b (c_st F_ g) (by kernel_rfl) (by kernel_rfl) _ _ hb1 (by kernel_rfl) (by kernel_rfl) (by kernel_rfl)) trivial ?_
 refine doneT (by kernel_rfl) ?_
 clear n2 hb0 hb1 G2 N1
 generalize w2.setRow b (c_st F_ g) = w3 at G3 ⊢
 obtain ⟨A,c,rfl⟩:=tb.slice H.st
 have G3d:=G3.on (Below.refl _ _).drew
 go_wp2_with fail
 refine startT (S:=fun X=>X.cell? ⟨F,17,none⟩ = some (.map (some B))∧X.cell? ⟨b,0,none⟩ = some (.string (str (g.getD 0 [])))∧X.cell? ⟨F,2,none⟩ = some (.slice A l.length c)) _ 13 rfl (by kernel_rfl) (by kernel_rfl) (by kernel_rfl) (bitsL 13 0) (by kernel_rfl) ⟨(G3d.cell ((set2_at (by decide)).trans ixx.cell)).1,cell_box (G3d.box_last) rfl,(G3d.cell ((set2_at (by decide)).trans tb.cell)).1⟩ (fun _=>?_)
 refine takesT (L:=[(0,24,pt F 0),(1,25,pt F 0),(2,26,pt F 17),(3,27,.map (some B)),(4,28,pt b 0),(5,29,.string (str (g.getD 0 []))),(6,30,pt F 0),(7,31,pt F 0),(8,32,pt F 2),(9,33,pt F 2),(10,34,.slice A l.length c),(11,35,.int .i64 (l.length:Nat))]) (.q (.q (.q (.cons rfl rfl (.inl ⟨rfl,fun _ h=>by obtain ⟨h0,h1,h2⟩:=h; dsimp only [pt]; go_simp; try with_reducible rfl⟩) (.q (.cons rfl rfl (.inl ⟨rfl,fun _ h=>by obtain ⟨h0,h1,h2⟩:=h; dsimp only [pt]; go_simp; try with_reducible rfl⟩) (.q (.q (.q (.q (.cons rfl rfl (.inl ⟨rfl,fun _ h=>by obtain ⟨h0,h1,h2⟩:=h; dsimp only [pt]; go_simp; try with_reducible rfl⟩) (.q .nil)))))))))))) [0,1,2,3,4,5,6,7,8,9,10,11] rfl rfl (by kernel_rfl) (fun _ _ _ _ _ h=>h) ⟨(G3d.cell ((set2_at (by decide)).trans ixx.cell)).1,cell_box (G3d.box_last) rfl,(G3d.cell ((set2_at (by decide)).trans tb.cell)).1⟩ ?_
 have hI:=ixx.app G3d
 refine callT (i:=12) 36 _ rfl (by kernel_rfl) rfl rfl rfl (by kernel_rfl) (enter_any B (l.map fun (x:S13.St)=>x.1) (g.getD 0 []) _ rfl (H.fld 0) (by rw [List.length_map]; exact tb.few) l.length (by rw [List.length_map]) _ hI) ?_
 rintro u w4 ⟨m4,g4⟩
 have G4:=G3d.turn (t':=tIdx B ((l.map fun (x:S13.St)=>x.1) ++ [g.getD 0 []])) ixx.app_at g4 (tIdx.at m4 (ixx.base G3d)) (fun k hk=>.inl hk)
 rw [List.set_append_left (h:=ixx.lt)] at G4
 refine ⟨⟨(G4.cell ((set2_at (by decide)).trans ixx.cell)).1,cell_box (G4.box_last) rfl,(G4.cell ((set2_at (by decide)).trans tb.cell)).1⟩,?_⟩
 refine doneT (by kernel_rfl) ?_
 clear m4 g4 hI G3d G3
 have HR:(ts.set 11 (tIdx B ((l.map fun (x:S13.St)=>x.1) ++ [g.getD 0 []])))[0]? = some (tRow w0.heap.size ⟨112,4,.slice A l.length c,l.length,fl S13.se l⟩):=(List.getElem?_set_ne (by decide)).trans tb.row
 obtain ⟨w5,h5⟩:∃ X,World.drew w4 = X:=⟨_,rfl⟩
 have G5:=G4.on (W':=w5) (by rw [← h5]; exact (Below.refl _ _).drew)
 go_wp2_with fail
 refine startZ (S:=fun X=>X.cell? ⟨F,2,none⟩ = some (.slice A l.length c)∧X.heap[b]? = some (.cells (c_st F_ g) 112 (0,0))) _ 13 12 rfl (by kernel_rfl) (by kernel_rfl) (by kernel_rfl) (bitsL 13 0) (by kernel_rfl) ?_
 rw [h5]
 refine takesZ (L:=[(0,37,pt F 0),(1,38,pt F 0),(2,39,pt F 0),(3,40,pt F 2),(4,41,pt F 2),(5,42,.slice A l.length c),(6,43,.agg (c_st F_ g))]) rfl (.q (.q (.q (.q (.q (.cons rfl rfl (.inl ⟨rfl,fun _ h=>by obtain ⟨h0,hb⟩:=h; dsimp only [pt]; go_simp; try with_reducible rfl⟩) (.cons rfl rfl (.inl ⟨rfl,fun _ h=>by obtain ⟨h0,hb⟩:=h; exact exec_load_row 112 (.tmp 2) (by kernel_rfl) b (by kernel_rfl) _ _ _ _ hb Tryz.underlying112 rfl (by kernel_rfl)⟩) .nil))))))) [0,1,2,3,4,5,6] rfl rfl (by kernel_rfl) (fun _ _ _ _ _ h=>h) ⟨(G5.cell ((set2_at (by decide)).trans tb.cell)).1,G5.box_last⟩ ?_
 obtain ⟨w6,h6⟩:∃ X,w5.alloc (.cells (c_st F_ g) 112 (0,0)) = X:=⟨_,rfl⟩
 have G6:=G5.on (W':=w6) (by rw [← h6]; exact (Below.refl _ _).alloc (Nat.le_refl _) _)
 have y6:=heap_alloc_new w5 (.cells (c_st F_ g) 112 (0,0))
 rw [h6] at y6
 refine makeZ (i:=7) (v:=.slice (some ⟨w5.heap.size,0,none⟩) 1 1) (w':=w6) 44 _ rfl (by kernel_rfl) rfl rfl rfl (by rw [← h6]; kernel_rfl) ⟨(G6.cell ((set2_at (by decide)).trans tb.cell)).1,G6.box_last⟩ rfl ?_
 obtain ⟨v7,w7,hr7,o7,g7,p7⟩:=run_appG (enc:=S13.se) S13.se_len (by decide) Tryz.underlying23 rinfo_st rfl (by decide) w6 23 w0.heap.size (.slice A l.length c) l (x_st F_ g) (fun u hu=>by simp only [S13.se,List.mem_cons,List.not_mem_nil,or_false] at hu; rcases hu with rfl | rfl | rfl | rfl <;> rfl) (G6.row (row_app HR)) _ _ y6 rfl G6.base.size (by have:=tb.few; omega)
 obtain ⟨A7,c7,e7,-⟩:=o7.lst
 have LN:(l ++ [((x_st F_ g):S13.St)]).length = l.length + 1:=by simp
 have o7':w7.ownsRow w0.heap.size 112 4 v7 (l.length + 1) (fl S13.se (l ++ [(x_st F_ g)])):=by have:=o7; unfold OwnG at this; rwa [LN] at this
 rw [LN] at e7
 subst e7
 have G7:=G6.turn (t':=tRow w0.heap.size ⟨112,4,.slice A7 (l.length + 1) c7,l.length + 1,fl S13.se (l ++ [(x_st F_ g)])⟩) (row_app HR) g7 (tRow.at o7') p7
 rw [List.set_append_left (h:=(List.getElem?_eq_some_iff.1 HR).1)] at G7
 refine makeZ (i:=8) (v:=.slice A7 (l.length + 1) c7) (w':=w7) 45 _ rfl (by kernel_rfl) rfl rfl rfl (exec_append (s:=.tmp 42) (x:=.tmp 44) (ST:=23) (by kernel_rfl) (by kernel_rfl) (by kernel_rfl) hr7) ⟨(G7.cell ((set2_at (by decide)).trans tb.cell)).1,G7.box_last⟩ rfl ?_
 refine onesZ (L:=[(9,46,pt F 0),(10,47,pt F 2),(11,48,pt F 2)]) (.q (.q (.q .nil))) [9,10,11] rfl rfl (by kernel_rfl) ⟨(G7.cell ((set2_at (by decide)).trans tb.cell)).1,G7.box_last⟩ ?_
 obtain ⟨k0,k1⟩:=G7.cell (i:=2) ((set2_at (by decide)).trans tb.cell)
 refine storeZ (w':=w7.setCell ⟨F,2,none⟩ (.slice A7 (l.length + 1) c7)) _ rfl (by kernel_rfl) rfl rfl rfl (by go_simp; try with_reducible rfl) ?_
 refine doneZ (by kernel_rfl) ?_
 have G8:=(G7.put 2 (.slice A7 (l.length + 1) c7)).less
 have GE:=Lib.hid G8
 clear G8 G7 G6 G5 k0 k1 hr7 o7 o7' g7 p7 LN y6 h6 h5 HR
 generalize w7.setCell ⟨F,2,none⟩ (.slice A7 (l.length + 1) c7) = w8 at GE ⊢
 go_wp2_with fail
 go_end0
 exact ⟨rfl,HZ.out _ _ _ GE.out⟩
theorem rinfo_ro:(Tryz.prog.info? 114).map (fun i=>(i.zero,i.size,i.bytes)) = some (some (.agg #[.string ⟨#[]⟩,.int .i64 0,.bool false]),3,32):=by kernel_rfl
abbrev c_ro (g:List Bs):Array Value:=#[.string (str (g.getD 0 [])),.int .i64 (fnd 3 nmL (g.getD 1 [])).1,.bool (flg (g.getD 2 [])).1]
abbrev x_ro (g:List Bs):Rt:=((g.getD 0 []),(fnd 3 nmL (g.getD 1 [])).1,(flg (g.getD 2 [])).1)
abbrev e_ro (g:List Bs):Int:=(fe1 (fe1 (fe1 0 (if (g.drop 0).length = 3 then 0 else 1)) (fnd 3 nmL (g.getD 1 [])).2) (flg (g.getD 2 [])).2)
theorem ad_ro (F_:Fm) {w0:World} {F:Nat} {vs:List Value} {ts:List Tng} {g:List Bs} {W:World} (H:Rec w0 F vs ts g W) (FO:Fo F_ w0) {v0:Value} {l:List Rt} (tb:Tbl w0 vs ts 1 114 3 v0 l.length (fl S15.re l)) {B:Nat} (ixx:Ix vs ts 1 B (l.map fun x=>x.1)) :
  Calls Tryz.prog 84 #[.pointer (some ⟨F,0,none⟩)] W fun r w'=>r = .returned (.tuple #[])∧∃ v' v,Gst w0 F 80 ((set2 vs v' (e_ro g)).set 3 v) ((ts.set 12 (tIdx B ((l.map fun (x:Rt)=>x.1) ++ [g.getD 0 []]))).set 1 (tRow w0.heap.size ⟨114,3,v,l.length + 1,fl S15.re (l ++ [(x_ro g)])⟩)) w':=by
 suffices h:∀ Z:World→Prop,(∀ v' v w',Gst w0 F 80 ((set2 vs v' (e_ro g)).set 3 v) ((ts.set 12 (tIdx B ((l.map fun (x:Rt)=>x.1) ++ [g.getD 0 []]))).set 1 (tRow w0.heap.size ⟨114,3,v,l.length + 1,fl S15.re (l ++ [(x_ro g)])⟩)) w'→Z w')→Calls Tryz.prog 84 #[.pointer (some ⟨F,0,none⟩)] W fun r w'=>r = .returned (.tuple #[])∧Z w' from h _ (fun v' v _ h=>⟨v',v,h⟩)
 intro Z hZ
 have HZ:=Lib.hid hZ
 clear hZ
 obtain ⟨vq,pq⟩:=H.prd
 have C0:=Lib.hid (expect_any (F:=F) (vs:=vs) (g:=g) (W0:=W) 3 0 0 H.len W (Nx.start pq))
 clear pq
 go_enter Tryz.func84,Tryz.ntmps84
 go_wp2_with fail
 refine C0.out.mono ?_
 rintro r w1 ⟨rfl,n1,-⟩
 have N1:=Lib.hid (n1.on (Below.refl _ _).drew)
 clear n1 C0
 go_wp2_with fail
 refine startT (S:=fun X=>True) _ 15 rfl (by kernel_rfl) (by kernel_rfl) (by kernel_rfl) (bitsL 15 0) (by kernel_rfl) trivial (fun _=>?_)
 refine takesT (L:=[(0,7,pt F 0),(1,8,pt F 0),(2,9,pt F 0),(4,11,pt F 0),(5,12,pt F 0),(6,13,pt F 0),(8,15,pt F 0),(9,16,pt F 0),(10,17,pt F 0)]) (.q (.q (.q (.q (.q (.q (.q (.q (.q .nil))))))))) [0,1,2,4,5,6,8,9,10] rfl rfl (by kernel_rfl) (fun _ _ _ _ _ h=>h) trivial ?_
 refine runsT (j:=13) (dj:=2) (v:=fun X=>.pointer (some ⟨X.heap.size,0,none⟩)) (m:=fun X=>X.alloc (.cells #[.string ⟨#[]⟩,.int .i64 0,.bool false] 114 (0,0))) (L:=Lq W (.cells #[.string ⟨#[]⟩,.int .i64 0,.bool false] 114 (0,0))) (G:=Nx F vs g W 0 (fe1 0 (if (g.drop 0).length = 3 then 0 else 1))) (I:=[3,7,11,12]) (.rd 10 (.string (str (g.getD 0 []))) rfl rfl (by decide) (fun _=>rfl) (fun _=>by kernel_rfl) (fun _ _=>by kernel_rfl) (text_any 0 _) (fun X h=>trivial) (.rd 14 (.int .i64 (fnd 3 nmL (g.getD 1 [])).1) rfl rfl (by decide) (fun _=>rfl) (fun _=>by kernel_rfl) (fun _ _=>by kernel_rfl) (mode_any 1 _ (fun w h=>FO.mode _ (H.fld _) w (H.low h))) (fun X h=>trivial) (.rd 18 (.bool (flg (g.getD 2 [])).1) rfl rfl (by decide) (fun _=>rfl) (fun _=>by kernel_rfl) (fun _ _=>by kernel_rfl) (flag_any 2 _) (fun X h=>trivial) (.step 19 (.agg (c_ro g)) rfl rfl (by decide) (fun _=>rfl) (fun _=>by kernel_rfl) (fun _ _=>by kernel_rfl) (Nx.new _) (fun X h=>trivial) (.nil (Nx.new _) (fun X h=>trivial)))))) rfl rfl (fun _=>rfl) (fun _ _=>by kernel_rfl) rfl (by kernel_rfl) N1.out ?_
 rintro q w2 n2 ⟨b,rfl,hb0,hb1⟩
 obtain ⟨v',G2⟩:=H.up n2
 have G3:=H.st.boxed G2 hb0 hb1 (c_ro g)
 refine storeT (i:=14) _ rfl (by kernel_rfl) rfl rfl rfl (exec_store_row 114 (.tmp 2) (.tmp 19) (by kernel_rfl) b (c_ro g) (by kernel_rfl) (by kernel_rfl) _ _ hb1 (by kernel_rfl) (by kernel_rfl) (by kernel_rfl)) trivial ?_
 refine doneT (by kernel_rfl) ?_
 clear n2 hb0 hb1 G2 N1
 generalize w2.setRow b (c_ro g) = w3 at G3 ⊢
 obtain ⟨A,c,rfl⟩:=tb.slice H.st
 have G3d:=G3.on (Below.refl _ _).drew
 go_wp2_with fail
 refine startT (S:=fun X=>X.cell? ⟨F,18,none⟩ = some (.map (some B))∧X.cell? ⟨b,0,none⟩ = some (.string (str (g.getD 0 [])))∧X.cell? ⟨F,3,none⟩ = some (.slice A l.length c)) _ 13 rfl (by kernel_rfl) (by kernel_rfl) (by kernel_rfl) (bitsL 13 0) (by kernel_rfl) ⟨(G3d.cell ((set2_at (by decide)).trans ixx.cell)).1,cell_box (G3d.box_last) rfl,(G3d.cell ((set2_at (by decide)).trans tb.cell)).1⟩ (fun _=>?_)
 refine takesT (L:=[(0,20,pt F 0),(1,21,pt F 0),(2,22,pt F 18),(3,23,.map (some B)),(4,24,pt b 0),(5,25,.string (str (g.getD 0 []))),(6,26,pt F 0),(7,27,pt F 0),(8,28,pt F 2),(9,29,pt F 3),(10,30,.slice A l.length c),(11,31,.int .i64 (l.length:Nat))]) (.q (.q (.q (.cons rfl rfl (.inl ⟨rfl,fun _ h=>by obtain ⟨h0,h1,h2⟩:=h; dsimp only [pt]; go_simp; try with_reducible rfl⟩) (.q (.cons rfl rfl (.inl ⟨rfl,fun _ h=>by obtain ⟨h0,h1,h2⟩:=h; dsimp only [pt]; go_simp; try with_reducible rfl⟩) (.q (.q (.q (.q (.cons rfl rfl (.inl ⟨rfl,fun _ h=>by obtain ⟨h0,h1,h2⟩:=h; dsimp only [pt]; go_simp; try with_reducible rfl⟩) (.q .nil)))))))))))) [0,1,2,3,4,5,6,7,8,9,10,11] rfl rfl (by kernel_rfl) (fun _ _ _ _ _ h=>h) ⟨(G3d.cell ((set2_at (by decide)).trans ixx.cell)).1,cell_box (G3d.box_last) rfl,(G3d.cell ((set2_at (by decide)).trans tb.cell)).1⟩ ?_
 have hI:=ixx.app G3d
 refine callT (i:=12) 32 _ rfl (by kernel_rfl) rfl rfl rfl (by kernel_rfl) (enter_any B (l.map fun (x:Rt)=>x.1) (g.getD 0 []) _ rfl (H.fld 0) (by rw [List.length_map]; exact tb.few) l.length (by rw [List.length_map]) _ hI) ?_
 rintro u w4 ⟨m4,g4⟩
 have G4:=G3d.turn (t':=tIdx B ((l.map fun (x:Rt)=>x.1) ++ [g.getD 0 []])) ixx.app_at g4 (tIdx.at m4 (ixx.base G3d)) (fun k hk=>.inl hk)
 rw [List.set_append_left (h:=ixx.lt)] at G4
 refine ⟨⟨(G4.cell ((set2_at (by decide)).trans ixx.cell)).1,cell_box (G4.box_last) rfl,(G4.cell ((set2_at (by decide)).trans tb.cell)).1⟩,?_⟩
 refine doneT (by kernel_rfl) ?_
 clear m4 g4 hI G3d G3
 have HR:(ts.set 12 (tIdx B ((l.map fun (x:Rt)=>x.1) ++ [g.getD 0 []])))[1]? = some (tRow w0.heap.size ⟨114,3,.slice A l.length c,l.length,fl S15.re l⟩):=(List.getElem?_set_ne (by decide)).trans tb.row
 obtain ⟨w5,h5⟩:∃ X,World.drew w4 = X:=⟨_,rfl⟩
 have G5:=G4.on (W':=w5) (by rw [← h5]; exact (Below.refl _ _).drew)
 go_wp2_with fail
 refine startZ (S:=fun X=>X.cell? ⟨F,3,none⟩ = some (.slice A l.length c)∧X.heap[b]? = some (.cells (c_ro g) 114 (0,0))) _ 13 12 rfl (by kernel_rfl) (by kernel_rfl) (by kernel_rfl) (bitsL 13 0) (by kernel_rfl) ?_
 rw [h5]
 refine takesZ (L:=[(0,33,pt F 0),(1,34,pt F 0),(2,35,pt F 0),(3,36,pt F 2),(4,37,pt F 3),(5,38,.slice A l.length c),(6,39,.agg (c_ro g))]) rfl (.q (.q (.q (.q (.q (.cons rfl rfl (.inl ⟨rfl,fun _ h=>by obtain ⟨h0,hb⟩:=h; dsimp only [pt]; go_simp; try with_reducible rfl⟩) (.cons rfl rfl (.inl ⟨rfl,fun _ h=>by obtain ⟨h0,hb⟩:=h; exact exec_load_row 114 (.tmp 2) (by kernel_rfl) b (by kernel_rfl) _ _ _ _ hb Tryz.underlying114 rfl (by kernel_rfl)⟩) .nil))))))) [0,1,2,3,4,5,6] rfl rfl (by kernel_rfl) (fun _ _ _ _ _ h=>h) ⟨(G5.cell ((set2_at (by decide)).trans tb.cell)).1,G5.box_last⟩ ?_
 obtain ⟨w6,h6⟩:∃ X,w5.alloc (.cells (c_ro g) 114 (0,0)) = X:=⟨_,rfl⟩
 have G6:=G5.on (W':=w6) (by rw [← h6]; exact (Below.refl _ _).alloc (Nat.le_refl _) _)
 have y6:=heap_alloc_new w5 (.cells (c_ro g) 114 (0,0))
 rw [h6] at y6
 refine makeZ (i:=7) (v:=.slice (some ⟨w5.heap.size,0,none⟩) 1 1) (w':=w6) 40 _ rfl (by kernel_rfl) rfl rfl rfl (by rw [← h6]; kernel_rfl) ⟨(G6.cell ((set2_at (by decide)).trans tb.cell)).1,G6.box_last⟩ rfl ?_
 obtain ⟨v7,w7,hr7,o7,g7,p7⟩:=run_appG (enc:=S15.re) S15.re_len (by decide) Tryz.underlying24 rinfo_ro rfl (by decide) w6 24 w0.heap.size (.slice A l.length c) l (x_ro g) (fun u hu=>by simp only [S15.re,List.mem_cons,List.not_mem_nil,or_false] at hu; rcases hu with rfl | rfl | rfl <;> rfl) (G6.row (row_app HR)) _ _ y6 rfl G6.base.size (by have:=tb.few; omega)
 obtain ⟨A7,c7,e7,-⟩:=o7.lst
 have LN:(l ++ [((x_ro g):Rt)]).length = l.length + 1:=by simp
 have o7':w7.ownsRow w0.heap.size 114 3 v7 (l.length + 1) (fl S15.re (l ++ [(x_ro g)])):=by have:=o7; unfold OwnG at this; rwa [LN] at this
 rw [LN] at e7
 subst e7
 have G7:=G6.turn (t':=tRow w0.heap.size ⟨114,3,.slice A7 (l.length + 1) c7,l.length + 1,fl S15.re (l ++ [(x_ro g)])⟩) (row_app HR) g7 (tRow.at o7') p7
 rw [List.set_append_left (h:=(List.getElem?_eq_some_iff.1 HR).1)] at G7
 refine makeZ (i:=8) (v:=.slice A7 (l.length + 1) c7) (w':=w7) 41 _ rfl (by kernel_rfl) rfl rfl rfl (exec_append (s:=.tmp 38) (x:=.tmp 40) (ST:=24) (by kernel_rfl) (by kernel_rfl) (by kernel_rfl) hr7) ⟨(G7.cell ((set2_at (by decide)).trans tb.cell)).1,G7.box_last⟩ rfl ?_
 refine onesZ (L:=[(9,42,pt F 0),(10,43,pt F 2),(11,44,pt F 3)]) (.q (.q (.q .nil))) [9,10,11] rfl rfl (by kernel_rfl) ⟨(G7.cell ((set2_at (by decide)).trans tb.cell)).1,G7.box_last⟩ ?_
 obtain ⟨k0,k1⟩:=G7.cell (i:=3) ((set2_at (by decide)).trans tb.cell)
 refine storeZ (w':=w7.setCell ⟨F,3,none⟩ (.slice A7 (l.length + 1) c7)) _ rfl (by kernel_rfl) rfl rfl rfl (by go_simp; try with_reducible rfl) ?_
 refine doneZ (by kernel_rfl) ?_
 have G8:=(G7.put 3 (.slice A7 (l.length + 1) c7)).less
 have GE:=Lib.hid G8
 clear G8 G7 G6 G5 k0 k1 hr7 o7 o7' g7 p7 LN y6 h6 h5 HR
 generalize w7.setCell ⟨F,3,none⟩ (.slice A7 (l.length + 1) c7) = w8 at GE ⊢
 go_wp2_with fail
 go_end0
 exact ⟨rfl,HZ.out _ _ _ GE.out⟩
theorem rinfo_ca:(Tryz.prog.info? 61).map (fun i=>(i.zero,i.size,i.bytes)) = some (some (.agg #[.string ⟨#[]⟩,.bool false,.bool false,.bool false,.bool false,.bool false,.bool false,.bool false,.int .i64 0,.int .i64 0]),10,40):=by kernel_rfl
abbrev c_ca (F_:Fm) (g:List Bs):Array Value:=#[.string (str (g.getD 0 [])),.bool ((wk (g.getD 1 [])).1 0),.bool ((wk (g.getD 1 [])).1 1),.bool ((wk (g.getD 1 [])).1 2),.bool ((wk (g.getD 1 [])).1 3),.bool ((wk (g.getD 1 [])).1 4),.bool ((wk (g.getD 1 [])).1 5),.bool ((wk (g.getD 1 [])).1 6),.int .i64 (F_.day (g.getD 2 [])).1,.int .i64 (F_.day (g.getD 3 [])).1]
abbrev x_ca (F_:Fm) (g:List Bs):S14.Cl:=((g.getD 0 []),(wk (g.getD 1 [])).1,(F_.day (g.getD 2 [])).1,(F_.day (g.getD 3 [])).1)
abbrev e_ca (F_:Fm) (g:List Bs):Int:=(fe1 (fe1 (fe1 (fe1 0 (if (g.drop 0).length = 4 then 0 else 1)) (wk (g.getD 1 [])).2) (F_.day (g.getD 2 [])).2) (F_.day (g.getD 3 [])).2)
theorem ad_ca (F_:Fm) {w0:World} {F:Nat} {vs:List Value} {ts:List Tng} {g:List Bs} {W:World} (H:Rec w0 F vs ts g W) (FO:Fo F_ w0) {v0:Value} {l:List S14.Cl} (tb:Tbl w0 vs ts 2 61 10 v0 l.length (fl S14.ce l)) {B:Nat} (ixx:Ix vs ts 2 B (l.map fun x=>x.1)) :
  Calls Tryz.prog 85 #[.pointer (some ⟨F,0,none⟩)] W fun r w'=>r = .returned (.tuple #[])∧∃ v' v,Gst w0 F 80 ((set2 vs v' (e_ca F_ g)).set 4 v) ((ts.set 13 (tIdx B ((l.map fun (x:S14.Cl)=>x.1) ++ [g.getD 0 []]))).set 2 (tRow w0.heap.size ⟨61,10,v,l.length + 1,fl S14.ce (l ++ [(x_ca F_ g)])⟩)) w':=by
 suffices h:∀ Z:World→Prop,(∀ v' v w',Gst w0 F 80 ((set2 vs v' (e_ca F_ g)).set 4 v) ((ts.set 13 (tIdx B ((l.map fun (x:S14.Cl)=>x.1) ++ [g.getD 0 []]))).set 2 (tRow w0.heap.size ⟨61,10,v,l.length + 1,fl S14.ce (l ++ [(x_ca F_ g)])⟩)) w'→Z w')→Calls Tryz.prog 85 #[.pointer (some ⟨F,0,none⟩)] W fun r w'=>r = .returned (.tuple #[])∧Z w' from h _ (fun v' v _ h=>⟨v',v,h⟩)
 intro Z hZ
 have HZ:=Lib.hid hZ
 clear hZ
 obtain ⟨vq,pq⟩:=H.prd
 have C0:=Lib.hid (expect_any (F:=F) (vs:=vs) (g:=g) (W0:=W) 4 0 0 H.len W (Nx.start pq))
 clear pq
 go_enter Tryz.func85,Tryz.ntmps85
 go_wp2_with fail
 refine C0.out.mono ?_
 rintro r w1 ⟨rfl,n1,-⟩
 have N1:=Lib.hid (n1.on (Below.refl _ _).drew)
 clear n1 C0
 go_wp2_with fail
 refine startT (S:=fun X=>True) _ 19 rfl (by kernel_rfl) (by kernel_rfl) (by kernel_rfl) (bitsL 19 0) (by kernel_rfl) trivial (fun _=>?_)
 refine takesT (L:=[(0,7,pt F 0),(1,8,pt F 0),(2,9,pt F 0),(4,11,pt F 0),(5,12,pt F 0),(6,13,pt F 0),(8,15,pt F 0),(9,16,pt F 0),(10,17,pt F 0),(12,19,pt F 0),(13,20,pt F 0),(14,21,pt F 0)]) (.q (.q (.q (.q (.q (.q (.q (.q (.q (.q (.q (.q .nil)))))))))))) [0,1,2,4,5,6,8,9,10,12,13,14] rfl rfl (by kernel_rfl) (fun _ _ _ _ _ h=>h) trivial ?_
 refine runsT (j:=17) (dj:=2) (v:=fun X=>.pointer (some ⟨X.heap.size,0,none⟩)) (m:=fun X=>X.alloc (.cells #[.string ⟨#[]⟩,.bool false,.bool false,.bool false,.bool false,.bool false,.bool false,.bool false,.int .i64 0,.int .i64 0] 61 (0,0))) (L:=Lq W (.cells #[.string ⟨#[]⟩,.bool false,.bool false,.bool false,.bool false,.bool false,.bool false,.bool false,.int .i64 0,.int .i64 0] 61 (0,0))) (G:=Nx F vs g W 0 (fe1 0 (if (g.drop 0).length = 4 then 0 else 1))) (I:=[3,7,11,15,16]) (.rd 10 (.string (str (g.getD 0 []))) rfl rfl (by decide) (fun _=>rfl) (fun _=>by kernel_rfl) (fun _ _=>by kernel_rfl) (text_any 0 _) (fun X h=>trivial) (.rd 14 (.agg #[.bool ((wk (g.getD 1 [])).1 0),.bool ((wk (g.getD 1 [])).1 1),.bool ((wk (g.getD 1 [])).1 2),.bool ((wk (g.getD 1 [])).1 3),.bool ((wk (g.getD 1 [])).1 4),.bool ((wk (g.getD 1 [])).1 5),.bool ((wk (g.getD 1 [])).1 6)]) rfl rfl (by decide) (fun _=>rfl) (fun _=>by kernel_rfl) (fun _ _=>by kernel_rfl) (week_any 1 _) (fun X h=>trivial) (.rd 18 (.int .i64 (F_.day (g.getD 2 [])).1) rfl rfl (by decide) (fun _=>rfl) (fun _=>by kernel_rfl) (fun _ _=>by kernel_rfl) (day_any F_ 2 _ (fun w h=>FO.day _ (H.fld _) w (H.low h))) (fun X h=>trivial) (.rd 22 (.int .i64 (F_.day (g.getD 3 [])).1) rfl rfl (by decide) (fun _=>rfl) (fun _=>by kernel_rfl) (fun _ _=>by kernel_rfl) (day_any F_ 3 _ (fun w h=>FO.day _ (H.fld _) w (H.low h))) (fun X h=>trivial) (.step 23 (.agg (c_ca F_ g)) rfl rfl (by decide) (fun _=>rfl) (fun _=>by kernel_rfl) (fun _ _=>by kernel_rfl) (Nx.new _) (fun X h=>trivial) (.nil (Nx.new _) (fun X h=>trivial))))))) rfl rfl (fun _=>rfl) (fun _ _=>by kernel_rfl) rfl (by kernel_rfl) N1.out ?_
 rintro q w2 n2 ⟨b,rfl,hb0,hb1⟩
 obtain ⟨v',G2⟩:=H.up n2
 have G3:=H.st.boxed G2 hb0 hb1 (c_ca F_ g)
 refine storeT (i:=18) _ rfl (by kernel_rfl) rfl rfl rfl (exec_store_row 61 (.tmp 2) (.tmp 23) (by kernel_rfl) b (c_ca F_ g) (by kernel_rfl) (by kernel_rfl) _ _ hb1 (by kernel_rfl) (by kernel_rfl) (by kernel_rfl)) trivial ?_
 refine doneT (by kernel_rfl) ?_
 clear n2 hb0 hb1 G2 N1
 generalize w2.setRow b (c_ca F_ g) = w3 at G3 ⊢
 obtain ⟨A,c,rfl⟩:=tb.slice H.st
 have G3d:=G3.on (Below.refl _ _).drew
 go_wp2_with fail
 refine startT (S:=fun X=>X.cell? ⟨F,19,none⟩ = some (.map (some B))∧X.cell? ⟨b,0,none⟩ = some (.string (str (g.getD 0 [])))∧X.cell? ⟨F,4,none⟩ = some (.slice A l.length c)) _ 13 rfl (by kernel_rfl) (by kernel_rfl) (by kernel_rfl) (bitsL 13 0) (by kernel_rfl) ⟨(G3d.cell ((set2_at (by decide)).trans ixx.cell)).1,cell_box (G3d.box_last) rfl,(G3d.cell ((set2_at (by decide)).trans tb.cell)).1⟩ (fun _=>?_)
 refine takesT (L:=[(0,24,pt F 0),(1,25,pt F 0),(2,26,pt F 19),(3,27,.map (some B)),(4,28,pt b 0),(5,29,.string (str (g.getD 0 []))),(6,30,pt F 0),(7,31,pt F 0),(8,32,pt F 2),(9,33,pt F 4),(10,34,.slice A l.length c),(11,35,.int .i64 (l.length:Nat))]) (.q (.q (.q (.cons rfl rfl (.inl ⟨rfl,fun _ h=>by obtain ⟨h0,h1,h2⟩:=h; dsimp only [pt]; go_simp; try with_reducible rfl⟩) (.q (.cons rfl rfl (.inl ⟨rfl,fun _ h=>by obtain ⟨h0,h1,h2⟩:=h; dsimp only [pt]; go_simp; try with_reducible rfl⟩) (.q (.q (.q (.q (.cons rfl rfl (.inl ⟨rfl,fun _ h=>by obtain ⟨h0,h1,h2⟩:=h; dsimp only [pt]; go_simp; try with_reducible rfl⟩) (.q .nil)))))))))))) [0,1,2,3,4,5,6,7,8,9,10,11] rfl rfl (by kernel_rfl) (fun _ _ _ _ _ h=>h) ⟨(G3d.cell ((set2_at (by decide)).trans ixx.cell)).1,cell_box (G3d.box_last) rfl,(G3d.cell ((set2_at (by decide)).trans tb.cell)).1⟩ ?_
 have hI:=ixx.app G3d
 refine callT (i:=12) 36 _ rfl (by kernel_rfl) rfl rfl rfl (by kernel_rfl) (enter_any B (l.map fun (x:S14.Cl)=>x.1) (g.getD 0 []) _ rfl (H.fld 0) (by rw [List.length_map]; exact tb.few) l.length (by rw [List.length_map]) _ hI) ?_
 rintro u w4 ⟨m4,g4⟩
 have G4:=G3d.turn (t':=tIdx B ((l.map fun (x:S14.Cl)=>x.1) ++ [g.getD 0 []])) ixx.app_at g4 (tIdx.at m4 (ixx.base G3d)) (fun k hk=>.inl hk)
 rw [List.set_append_left (h:=ixx.lt)] at G4
 refine ⟨⟨(G4.cell ((set2_at (by decide)).trans ixx.cell)).1,cell_box (G4.box_last) rfl,(G4.cell ((set2_at (by decide)).trans tb.cell)).1⟩,?_⟩
 refine doneT (by kernel_rfl) ?_
 clear m4 g4 hI G3d G3
 have HR:(ts.set 13 (tIdx B ((l.map fun (x:S14.Cl)=>x.1) ++ [g.getD 0 []])))[2]? = some (tRow w0.heap.size ⟨61,10,.slice A l.length c,l.length,fl S14.ce l⟩):=(List.getElem?_set_ne (by decide)).trans tb.row
 obtain ⟨w5,h5⟩:∃ X,World.drew w4 = X:=⟨_,rfl⟩
 have G5:=G4.on (W':=w5) (by rw [← h5]; exact (Below.refl _ _).drew)
 go_wp2_with fail
 refine startZ (S:=fun X=>X.cell? ⟨F,4,none⟩ = some (.slice A l.length c)∧X.heap[b]? = some (.cells (c_ca F_ g) 61 (0,0))) _ 13 12 rfl (by kernel_rfl) (by kernel_rfl) (by kernel_rfl) (bitsL 13 0) (by kernel_rfl) ?_
 rw [h5]
 refine takesZ (L:=[(0,37,pt F 0),(1,38,pt F 0),(2,39,pt F 0),(3,40,pt F 2),(4,41,pt F 4),(5,42,.slice A l.length c),(6,43,.agg (c_ca F_ g))]) rfl (.q (.q (.q (.q (.q (.cons rfl rfl (.inl ⟨rfl,fun _ h=>by obtain ⟨h0,hb⟩:=h; dsimp only [pt]; go_simp; try with_reducible rfl⟩) (.cons rfl rfl (.inl ⟨rfl,fun _ h=>by obtain ⟨h0,hb⟩:=h; exact exec_load_row 61 (.tmp 2) (by kernel_rfl) b (by kernel_rfl) _ _ _ _ hb Tryz.underlying61 rfl (by kernel_rfl)⟩) .nil))))))) [0,1,2,3,4,5,6] rfl rfl (by kernel_rfl) (fun _ _ _ _ _ h=>h) ⟨(G5.cell ((set2_at (by decide)).trans tb.cell)).1,G5.box_last⟩ ?_
 obtain ⟨w6,h6⟩:∃ X,w5.alloc (.cells (c_ca F_ g) 61 (0,0)) = X:=⟨_,rfl⟩
 have G6:=G5.on (W':=w6) (by rw [← h6]; exact (Below.refl _ _).alloc (Nat.le_refl _) _)
 have y6:=heap_alloc_new w5 (.cells (c_ca F_ g) 61 (0,0))
 rw [h6] at y6
 refine makeZ (i:=7) (v:=.slice (some ⟨w5.heap.size,0,none⟩) 1 1) (w':=w6) 44 _ rfl (by kernel_rfl) rfl rfl rfl (by rw [← h6]; kernel_rfl) ⟨(G6.cell ((set2_at (by decide)).trans tb.cell)).1,G6.box_last⟩ rfl ?_
 obtain ⟨v7,w7,hr7,o7,g7,p7⟩:=run_appG (enc:=S14.ce) S14.ce_len (by decide) Tryz.underlying25 rinfo_ca rfl (by decide) w6 25 w0.heap.size (.slice A l.length c) l (x_ca F_ g) (fun u hu=>by simp only [S14.ce,List.mem_cons,List.not_mem_nil,or_false] at hu; rcases hu with rfl | rfl | rfl | rfl | rfl | rfl | rfl | rfl | rfl | rfl <;> rfl) (G6.row (row_app HR)) _ _ y6 rfl G6.base.size (by have:=tb.few; omega)
 obtain ⟨A7,c7,e7,-⟩:=o7.lst
 have LN:(l ++ [((x_ca F_ g):S14.Cl)]).length = l.length + 1:=by simp
 have o7':w7.ownsRow w0.heap.size 61 10 v7 (l.length + 1) (fl S14.ce (l ++ [(x_ca F_ g)])):=by have:=o7; unfold OwnG at this; rwa [LN] at this
 rw [LN] at e7
 subst e7
 have G7:=G6.turn (t':=tRow w0.heap.size ⟨61,10,.slice A7 (l.length + 1) c7,l.length + 1,fl S14.ce (l ++ [(x_ca F_ g)])⟩) (row_app HR) g7 (tRow.at o7') p7
 rw [List.set_append_left (h:=(List.getElem?_eq_some_iff.1 HR).1)] at G7
 refine makeZ (i:=8) (v:=.slice A7 (l.length + 1) c7) (w':=w7) 45 _ rfl (by kernel_rfl) rfl rfl rfl (exec_append (s:=.tmp 42) (x:=.tmp 44) (ST:=25) (by kernel_rfl) (by kernel_rfl) (by kernel_rfl) hr7) ⟨(G7.cell ((set2_at (by decide)).trans tb.cell)).1,G7.box_last⟩ rfl ?_
 refine onesZ (L:=[(9,46,pt F 0),(10,47,pt F 2),(11,48,pt F 4)]) (.q (.q (.q .nil))) [9,10,11] rfl rfl (by kernel_rfl) ⟨(G7.cell ((set2_at (by decide)).trans tb.cell)).1,G7.box_last⟩ ?_
 obtain ⟨k0,k1⟩:=G7.cell (i:=4) ((set2_at (by decide)).trans tb.cell)
 refine storeZ (w':=w7.setCell ⟨F,4,none⟩ (.slice A7 (l.length + 1) c7)) _ rfl (by kernel_rfl) rfl rfl rfl (by go_simp; try with_reducible rfl) ?_
 refine doneZ (by kernel_rfl) ?_
 have G8:=(G7.put 4 (.slice A7 (l.length + 1) c7)).less
 have GE:=Lib.hid G8
 clear G8 G7 G6 G5 k0 k1 hr7 o7 o7' g7 p7 LN y6 h6 h5 HR
 generalize w7.setCell ⟨F,4,none⟩ (.slice A7 (l.length + 1) c7) = w8 at GE ⊢
 go_wp2_with fail
 go_end0
 exact ⟨rfl,HZ.out _ _ _ GE.out⟩
theorem rinfo_ex:(Tryz.prog.info? 116).map (fun i=>(i.zero,i.size,i.bytes)) = some (some (.agg #[.int .i64 0,.int .i64 0,.bool false]),3,24):=by kernel_rfl
abbrev c_ex (F_:Fm) (g:List Bs) (i_ca:List Bs):Array Value:=#[.int .i64 (fnd 9 i_ca (g.getD 0 [])).1,.int .i64 (F_.day (g.getD 1 [])).1,.bool (decide ((fnd 3 [wRem,wAdd] (g.getD 2 [])).1 = 1))]
abbrev x_ex (F_:Fm) (g:List Bs) (i_ca:List Bs):S14.Ex:=((fnd 9 i_ca (g.getD 0 [])).1,(F_.day (g.getD 1 [])).1,(decide ((fnd 3 [wRem,wAdd] (g.getD 2 [])).1 = 1)))
abbrev e_ex (F_:Fm) (g:List Bs) (i_ca:List Bs):Int:=(fe1 (fe1 (fe1 (fe1 0 (if (g.drop 0).length = 3 then 0 else 1)) (fnd 9 i_ca (g.getD 0 [])).2) (F_.day (g.getD 1 [])).2) (fnd 3 [wRem,wAdd] (g.getD 2 [])).2)
theorem ad_ex (F_:Fm) {w0:World} {F:Nat} {vs:List Value} {ts:List Tng} {g:List Bs} {W:World} (H:Rec w0 F vs ts g W) (FO:Fo F_ w0) {v0:Value} {l:List S14.Ex} (tb:Tbl w0 vs ts 3 116 3 v0 l.length (fl S14.xe l)) {B_ca:Nat} {i_ca:List Bs} (X_ca:Ix vs ts 2 B_ca i_ca) :
  Calls Tryz.prog 86 #[.pointer (some ⟨F,0,none⟩)] W fun r w'=>r = .returned (.tuple #[])∧∃ v' v,Gst w0 F 80 ((set2 vs v' (e_ex F_ g i_ca)).set 5 v) (ts.set 3 (tRow w0.heap.size ⟨116,3,v,l.length + 1,fl S14.xe (l ++ [(x_ex F_ g i_ca)])⟩)) w':=by
 suffices h:∀ Z:World→Prop,(∀ v' v w',Gst w0 F 80 ((set2 vs v' (e_ex F_ g i_ca)).set 5 v) (ts.set 3 (tRow w0.heap.size ⟨116,3,v,l.length + 1,fl S14.xe (l ++ [(x_ex F_ g i_ca)])⟩)) w'→Z w')→Calls Tryz.prog 86 #[.pointer (some ⟨F,0,none⟩)] W fun r w'=>r = .returned (.tuple #[])∧Z w' from h _ (fun v' v _ h=>⟨v',v,h⟩)
 intro Z hZ
 have HZ:=Lib.hid hZ
 clear hZ
 obtain ⟨vq,pq⟩:=H.prd
 have C0:=Lib.hid (expect_any (F:=F) (vs:=vs) (g:=g) (W0:=W) 3 0 0 H.len W (Nx.start pq))
 clear pq
 go_enter Tryz.func86,Tryz.ntmps86
 go_wp2_with fail
 refine C0.out.mono ?_
 rintro r w1 ⟨rfl,n1,-⟩
 have N1:=Lib.hid (n1.on (Below.refl _ _).drew)
 clear n1 C0
 go_wp2_with fail
 refine startT (S:=fun X=>X.cell? ⟨F,19,none⟩ = some (.map (some B_ca))) _ 19 rfl (by kernel_rfl) (by kernel_rfl) (by kernel_rfl) (bitsL 19 0) (by kernel_rfl) (N1.out.cell (by decide) X_ca.cell) (fun _=>?_)
 refine takesT (L:=[(0,7,pt F 0),(1,8,pt F 0),(2,9,pt F 0),(3,10,pt F 0),(4,11,pt F 0),(5,12,pt F 19),(6,13,.map (some B_ca)),(8,15,pt F 0),(9,16,pt F 0),(10,17,pt F 0),(12,19,pt F 0),(13,20,pt F 0),(14,21,pt F 0)]) (.q (.q (.q (.q (.q (.q (.cons rfl rfl (.inl ⟨rfl,fun _ h=>by have h0:=h; dsimp only [pt]; go_simp; try with_reducible rfl⟩) (.q (.q (.q (.q (.q (.q .nil))))))))))))) [0,1,2,3,4,5,6,8,9,10,12,13,14] rfl rfl (by kernel_rfl) (fun _ _ _ _ _ h=>h) (N1.out.cell (by decide) X_ca.cell) ?_
 refine runsT (j:=17) (dj:=2) (v:=fun X=>.pointer (some ⟨X.heap.size,0,none⟩)) (m:=fun X=>X.alloc (.cells #[.int .i64 0,.int .i64 0,.bool false] 116 (0,0))) (L:=Lq W (.cells #[.int .i64 0,.int .i64 0,.bool false] 116 (0,0))) (G:=Nx F vs g W 0 (fe1 0 (if (g.drop 0).length = 3 then 0 else 1))) (I:=[7,11,15,16]) (.rd 14 (.int .i64 (fnd 9 i_ca (g.getD 0 [])).1) rfl rfl (by decide) (fun _=>rfl) (fun _=>by kernel_rfl) (fun _ _=>by kernel_rfl) (ref_any B_ca i_ca (X_ca.off H.st).1 (X_ca.off H.st).2 0 _ (H.fld _)) (fun X h=>(h.cell (by decide) X_ca.cell)) (.rd 18 (.int .i64 (F_.day (g.getD 1 [])).1) rfl rfl (by decide) (fun _=>rfl) (fun _=>by kernel_rfl) (fun _ _=>by kernel_rfl) (day_any F_ 1 _ (fun w h=>FO.day _ (H.fld _) w (H.low h))) (fun X h=>(h.cell (by decide) X_ca.cell)) (.rd 22 (.bool (decide ((fnd 3 [wRem,wAdd] (g.getD 2 [])).1 = 1))) rfl rfl (by decide) (fun _=>rfl) (fun _=>by kernel_rfl) (fun _ _=>by kernel_rfl) (add_any 2 _) (fun X h=>(h.cell (by decide) X_ca.cell)) (.step 23 (.agg (c_ex F_ g i_ca)) rfl rfl (by decide) (fun _=>rfl) (fun _=>by kernel_rfl) (fun _ _=>by kernel_rfl) (Nx.new _) (fun X h=>(h.cell (by decide) X_ca.cell)) (.nil (Nx.new _) (fun X h=>(h.cell (by decide) X_ca.cell))))))) rfl rfl (fun _=>rfl) (fun _ _=>by kernel_rfl) rfl (by kernel_rfl) N1.out ?_
 rintro q w2 n2 ⟨b,rfl,hb0,hb1⟩
 obtain ⟨v',G2⟩:=H.up n2
 have G3:=H.st.boxed G2 hb0 hb1 (c_ex F_ g i_ca)
 refine storeT (i:=18) _ rfl (by kernel_rfl) rfl rfl rfl (exec_store_row 116 (.tmp 2) (.tmp 23) (by kernel_rfl) b (c_ex F_ g i_ca) (by kernel_rfl) (by kernel_rfl) _ _ hb1 (by kernel_rfl) (by kernel_rfl) (by kernel_rfl)) ((G3.cell ((set2_at (by decide)).trans X_ca.cell)).1) ?_
 refine doneT (by kernel_rfl) ?_
 clear n2 hb0 hb1 G2 N1
 generalize w2.setRow b (c_ex F_ g i_ca) = w3 at G3 ⊢
 obtain ⟨A,c,rfl⟩:=tb.slice H.st
 have HR:ts[3]? = some (tRow w0.heap.size ⟨116,3,.slice A l.length c,l.length,fl S14.xe l⟩):=tb.row
 obtain ⟨w5,h5⟩:∃ X,World.drew w3 = X:=⟨_,rfl⟩
 have G5:=G3.on (W':=w5) (by rw [← h5]; exact (Below.refl _ _).drew)
 go_wp2_with fail
 refine startZ (S:=fun X=>X.cell? ⟨F,5,none⟩ = some (.slice A l.length c)∧X.heap[b]? = some (.cells (c_ex F_ g i_ca) 116 (0,0))) _ 13 12 rfl (by kernel_rfl) (by kernel_rfl) (by kernel_rfl) (bitsL 13 0) (by kernel_rfl) ?_
 rw [h5]
 refine takesZ (L:=[(0,24,pt F 0),(1,25,pt F 0),(2,26,pt F 0),(3,27,pt F 2),(4,28,pt F 5),(5,29,.slice A l.length c),(6,30,.agg (c_ex F_ g i_ca))]) rfl (.q (.q (.q (.q (.q (.cons rfl rfl (.inl ⟨rfl,fun _ h=>by obtain ⟨h0,hb⟩:=h; dsimp only [pt]; go_simp; try with_reducible rfl⟩) (.cons rfl rfl (.inl ⟨rfl,fun _ h=>by obtain ⟨h0,hb⟩:=h; exact exec_load_row 116 (.tmp 2) (by kernel_rfl) b (by kernel_rfl) _ _ _ _ hb Tryz.underlying116 rfl (by kernel_rfl)⟩) .nil))))))) [0,1,2,3,4,5,6] rfl rfl (by kernel_rfl) (fun _ _ _ _ _ h=>h) ⟨(G5.cell ((set2_at (by decide)).trans tb.cell)).1,G5.box_last⟩ ?_
 obtain ⟨w6,h6⟩:∃ X,w5.alloc (.cells (c_ex F_ g i_ca) 116 (0,0)) = X:=⟨_,rfl⟩
 have G6:=G5.on (W':=w6) (by rw [← h6]; exact (Below.refl _ _).alloc (Nat.le_refl _) _)
 have y6:=heap_alloc_new w5 (.cells (c_ex F_ g i_ca) 116 (0,0))
 rw [h6] at y6
 refine makeZ (i:=7) (v:=.slice (some ⟨w5.heap.size,0,none⟩) 1 1) (w':=w6) 31 _ rfl (by kernel_rfl) rfl rfl rfl (by rw [← h6]; kernel_rfl) ⟨(G6.cell ((set2_at (by decide)).trans tb.cell)).1,G6.box_last⟩ rfl ?_
 obtain ⟨v7,w7,hr7,o7,g7,p7⟩:=run_appG (enc:=S14.xe) S14.xe_len (by decide) Tryz.underlying26 rinfo_ex rfl (by decide) w6 26 w0.heap.size (.slice A l.length c) l (x_ex F_ g i_ca) (fun u hu=>by simp only [S14.xe,List.mem_cons,List.not_mem_nil,or_false] at hu; rcases hu with rfl | rfl | rfl <;> rfl) (G6.row (row_app HR)) _ _ y6 rfl G6.base.size (by have:=tb.few; omega)
 obtain ⟨A7,c7,e7,-⟩:=o7.lst
 have LN:(l ++ [((x_ex F_ g i_ca):S14.Ex)]).length = l.length + 1:=by simp
 have o7':w7.ownsRow w0.heap.size 116 3 v7 (l.length + 1) (fl S14.xe (l ++ [(x_ex F_ g i_ca)])):=by have:=o7; unfold OwnG at this; rwa [LN] at this
 rw [LN] at e7
 subst e7
 have G7:=G6.turn (t':=tRow w0.heap.size ⟨116,3,.slice A7 (l.length + 1) c7,l.length + 1,fl S14.xe (l ++ [(x_ex F_ g i_ca)])⟩) (row_app HR) g7 (tRow.at o7') p7
 rw [List.set_append_left (h:=(List.getElem?_eq_some_iff.1 HR).1)] at G7
 refine makeZ (i:=8) (v:=.slice A7 (l.length + 1) c7) (w':=w7) 32 _ rfl (by kernel_rfl) rfl rfl rfl (exec_append (s:=.tmp 29) (x:=.tmp 31) (ST:=26) (by kernel_rfl) (by kernel_rfl) (by kernel_rfl) hr7) ⟨(G7.cell ((set2_at (by decide)).trans tb.cell)).1,G7.box_last⟩ rfl ?_
 refine onesZ (L:=[(9,33,pt F 0),(10,34,pt F 2),(11,35,pt F 5)]) (.q (.q (.q .nil))) [9,10,11] rfl rfl (by kernel_rfl) ⟨(G7.cell ((set2_at (by decide)).trans tb.cell)).1,G7.box_last⟩ ?_
 obtain ⟨k0,k1⟩:=G7.cell (i:=5) ((set2_at (by decide)).trans tb.cell)
 refine storeZ (w':=w7.setCell ⟨F,5,none⟩ (.slice A7 (l.length + 1) c7)) _ rfl (by kernel_rfl) rfl rfl rfl (by go_simp; try with_reducible rfl) ?_
 refine doneZ (by kernel_rfl) ?_
 have G8:=(G7.put 5 (.slice A7 (l.length + 1) c7)).less
 have GE:=Lib.hid G8
 clear G8 G7 G6 G5 k0 k1 hr7 o7 o7' g7 p7 LN y6 h6 h5 HR
 generalize w7.setCell ⟨F,5,none⟩ (.slice A7 (l.length + 1) c7) = w8 at GE ⊢
 go_wp2_with fail
 go_end0
 exact ⟨rfl,HZ.out _ _ _ GE.out⟩
theorem rinfo_tr:(Tryz.prog.info? 56).map (fun i=>(i.zero,i.size,i.bytes)) = some (some (.agg #[.string ⟨#[]⟩,.int .i64 0,.int .i64 0,.bool false,.slice none 0 0]),5,64):=by kernel_rfl
abbrev c_tr (g:List Bs) (i_ro i_ca:List Bs):Array Value:=#[.string (str (g.getD 0 [])),.int .i64 (fnd 9 i_ro (g.getD 1 [])).1,.int .i64 (fnd 9 i_ca (g.getD 2 [])).1,.bool (flg (g.getD 3 [])).1,.slice none 0 0]
abbrev x_tr (g:List Bs) (i_ro i_ca:List Bs):Tp:=((g.getD 0 []),(fnd 9 i_ro (g.getD 1 [])).1,(fnd 9 i_ca (g.getD 2 [])).1,(flg (g.getD 3 [])).1,Value.slice none 0 0,[])
abbrev e_tr (g:List Bs) (i_ro i_ca:List Bs):Int:=(fe1 (fe1 (fe1 (fe1 0 (if (g.drop 0).length = 4 then 0 else 1)) (fnd 9 i_ro (g.getD 1 [])).2) (fnd 9 i_ca (g.getD 2 [])).2) (flg (g.getD 3 [])).2)
theorem ad_tr {w0:World} {F:Nat} {vs:List Value} {ts:List Tng} {g:List Bs} {W:World} (H:Rec w0 F vs ts g W) {v0:Value} {l:List Tp} (tb:Tbl w0 vs ts 4 56 5 v0 l.length (fl te l)) {B:Nat} (ixx:Ix vs ts 3 B (l.map fun x=>x.1)) {B_ro:Nat} {i_ro:List Bs} (X_ro:Ix vs ts 1 B_ro i_ro) {B_ca:Nat} {i_ca:List Bs} (X_ca:Ix vs ts 2 B_ca i_ca) :
  Calls Tryz.prog 87 #[.pointer (some ⟨F,0,none⟩)] W fun r w'=>r = .returned (.tuple #[])∧∃ v' v,Gst w0 F 80 ((set2 vs v' (e_tr g i_ro i_ca)).set 6 v) ((ts.set 14 (tIdx B ((l.map fun (x:Tp)=>x.1) ++ [g.getD 0 []]))).set 4 (tRow w0.heap.size ⟨56,5,v,l.length + 1,fl te (l ++ [(x_tr g i_ro i_ca)])⟩)) w':=by
 suffices h:∀ Z:World→Prop,(∀ v' v w',Gst w0 F 80 ((set2 vs v' (e_tr g i_ro i_ca)).set 6 v) ((ts.set 14 (tIdx B ((l.map fun (x:Tp)=>x.1) ++ [g.getD 0 []]))).set 4 (tRow w0.heap.size ⟨56,5,v,l.length + 1,fl te (l ++ [(x_tr g i_ro i_ca)])⟩)) w'→Z w')→Calls Tryz.prog 87 #[.pointer (some ⟨F,0,none⟩)] W fun r w'=>r = .returned (.tuple #[])∧Z w' from h _ (fun v' v _ h=>⟨v',v,h⟩)
 intro Z hZ
 have HZ:=Lib.hid hZ
 clear hZ
 obtain ⟨vq,pq⟩:=H.prd
 have C0:=Lib.hid (expect_any (F:=F) (vs:=vs) (g:=g) (W0:=W) 4 0 0 H.len W (Nx.start pq))
 clear pq
 go_enter Tryz.func87,Tryz.ntmps87
 go_wp2_with fail
 refine C0.out.mono ?_
 rintro r w1 ⟨rfl,n1,-⟩
 have N1:=Lib.hid (n1.on (Below.refl _ _).drew)
 clear n1 C0
 go_wp2_with fail
 refine startT (S:=fun X=>X.cell? ⟨F,18,none⟩ = some (.map (some B_ro))∧X.cell? ⟨F,19,none⟩ = some (.map (some B_ca))) _ 27 rfl (by kernel_rfl) (by kernel_rfl) (by kernel_rfl) (bitsL 27 0) (by kernel_rfl) ⟨N1.out.cell (by decide) X_ro.cell,N1.out.cell (by decide) X_ca.cell⟩ (fun _=>?_)
 refine takesT (L:=[(0,7,pt F 0),(1,8,pt F 0),(2,9,pt F 0),(4,11,pt F 0),(5,12,pt F 0),(6,13,pt F 0),(7,14,pt F 0),(8,15,pt F 0),(9,16,pt F 18),(10,17,.map (some B_ro)),(12,19,pt F 0),(13,20,pt F 0),(14,21,pt F 0),(15,22,pt F 0),(16,23,pt F 0),(17,24,pt F 19),(18,25,.map (some B_ca)),(20,27,pt F 0),(21,28,pt F 0),(22,29,pt F 0)]) (.q (.q (.q (.q (.q (.q (.q (.q (.q (.cons rfl rfl (.inl ⟨rfl,fun _ h=>by obtain ⟨h0,h1⟩:=h; dsimp only [pt]; go_simp; try with_reducible rfl⟩) (.q (.q (.q (.q (.q (.q (.cons rfl rfl (.inl ⟨rfl,fun _ h=>by obtain ⟨h0,h1⟩:=h; dsimp only [pt]; go_simp; try with_reducible rfl⟩) (.q (.q (.q .nil)))))))))))))))))))) [0,1,2,4,5,6,7,8,9,10,12,13,14,15,16,17,18,20,21,22] rfl rfl (by kernel_rfl) (fun _ _ _ _ _ h=>h) ⟨N1.out.cell (by decide) X_ro.cell,N1.out.cell (by decide) X_ca.cell⟩ ?_
 refine runsT (j:=25) (dj:=2) (v:=fun X=>.pointer (some ⟨X.heap.size,0,none⟩)) (m:=fun X=>X.alloc (.cells #[.string ⟨#[]⟩,.int .i64 0,.int .i64 0,.bool false,.slice none 0 0] 56 (0,0))) (L:=Lq W (.cells #[.string ⟨#[]⟩,.int .i64 0,.int .i64 0,.bool false,.slice none 0 0] 56 (0,0))) (G:=Nx F vs g W 0 (fe1 0 (if (g.drop 0).length = 4 then 0 else 1))) (I:=[3,11,19,23,24]) (.rd 10 (.string (str (g.getD 0 []))) rfl rfl (by decide) (fun _=>rfl) (fun _=>by kernel_rfl) (fun _ _=>by kernel_rfl) (text_any 0 _) (fun X h=>⟨h.cell (by decide) X_ro.cell,h.cell (by decide) X_ca.cell⟩) (.rd 18 (.int .i64 (fnd 9 i_ro (g.getD 1 [])).1) rfl rfl (by decide) (fun _=>rfl) (fun _=>by kernel_rfl) (fun _ _=>by kernel_rfl) (ref_any B_ro i_ro (X_ro.off H.st).1 (X_ro.off H.st).2 1 _ (H.fld _)) (fun X h=>⟨h.cell (by decide) X_ro.cell,h.cell (by decide) X_ca.cell⟩) (.rd 26 (.int .i64 (fnd 9 i_ca (g.getD 2 [])).1) rfl rfl (by decide) (fun _=>rfl) (fun _=>by kernel_rfl) (fun _ _=>by kernel_rfl) (ref_any B_ca i_ca (X_ca.off H.st).1 (X_ca.off H.st).2 2 _ (H.fld _)) (fun X h=>⟨h.cell (by decide) X_ro.cell,h.cell (by decide) X_ca.cell⟩) (.rd 30 (.bool (flg (g.getD 3 [])).1) rfl rfl (by decide) (fun _=>rfl) (fun _=>by kernel_rfl) (fun _ _=>by kernel_rfl) (flag_any 3 _) (fun X h=>⟨h.cell (by decide) X_ro.cell,h.cell (by decide) X_ca.cell⟩) (.step 31 (.agg (c_tr g i_ro i_ca)) rfl rfl (by decide) (fun _=>rfl) (fun _=>by kernel_rfl) (fun _ _=>by kernel_rfl) (Nx.new _) (fun X h=>⟨h.cell (by decide) X_ro.cell,h.cell (by decide) X_ca.cell⟩) (.nil (Nx.new _) (fun X h=>⟨h.cell (by decide) X_ro.cell,h.cell (by decide) X_ca.cell⟩))))))) rfl rfl (fun _=>rfl) (fun _ _=>by kernel_rfl) rfl (by kernel_rfl) N1.out ?_
 rintro q w2 n2 ⟨b,rfl,hb0,hb1⟩
 obtain ⟨v',G2⟩:=H.up n2
 have G3:=H.st.boxed G2 hb0 hb1 (c_tr g i_ro i_ca)
 refine storeT (i:=26) _ rfl (by kernel_rfl) rfl rfl rfl (exec_store_row 56 (.tmp 2) (.tmp 31) (by kernel_rfl) b (c_tr g i_ro i_ca) (by kernel_rfl) (by kernel_rfl) _ _ hb1 (by kernel_rfl) (by kernel_rfl) (by kernel_rfl)) ⟨(G3.cell ((set2_at (by decide)).trans X_ro.cell)).1,(G3.cell ((set2_at (by decide)).trans X_ca.cell)).1⟩ ?_
 refine doneT (by kernel_rfl) ?_
 clear n2 hb0 hb1 G2 N1
 generalize w2.setRow b (c_tr g i_ro i_ca) = w3 at G3 ⊢
 obtain ⟨A,c,rfl⟩:=tb.slice H.st
 have G3d:=G3.on (Below.refl _ _).drew
 go_wp2_with fail
 refine startT (S:=fun X=>X.cell? ⟨F,20,none⟩ = some (.map (some B))∧X.cell? ⟨b,0,none⟩ = some (.string (str (g.getD 0 [])))∧X.cell? ⟨F,6,none⟩ = some (.slice A l.length c)) _ 13 rfl (by kernel_rfl) (by kernel_rfl) (by kernel_rfl) (bitsL 13 0) (by kernel_rfl) ⟨(G3d.cell ((set2_at (by decide)).trans ixx.cell)).1,cell_box (G3d.box_last) rfl,(G3d.cell ((set2_at (by decide)).trans tb.cell)).1⟩ (fun _=>?_)
 refine takesT (L:=[(0,32,pt F 0),(1,33,pt F 0),(2,34,pt F 20),(3,35,.map (some B)),(4,36,pt b 0),(5,37,.string (str (g.getD 0 []))),(6,38,pt F 0),(7,39,pt F 0),(8,40,pt F 2),(9,41,pt F 6),(10,42,.slice A l.length c),(11,43,.int .i64 (l.length:Nat))]) (.q (.q (.q (.cons rfl rfl (.inl ⟨rfl,fun _ h=>by obtain ⟨h0,h1,h2⟩:=h; dsimp only [pt]; go_simp; try with_reducible rfl⟩) (.q (.cons rfl rfl (.inl ⟨rfl,fun _ h=>by obtain ⟨h0,h1,h2⟩:=h; dsimp only [pt]; go_simp; try with_reducible rfl⟩) (.q (.q (.q (.q (.cons rfl rfl (.inl ⟨rfl,fun _ h=>by obtain ⟨h0,h1,h2⟩:=h; dsimp only [pt]; go_simp; try with_reducible rfl⟩) (.q .nil)))))))))))) [0,1,2,3,4,5,6,7,8,9,10,11] rfl rfl (by kernel_rfl) (fun _ _ _ _ _ h=>h) ⟨(G3d.cell ((set2_at (by decide)).trans ixx.cell)).1,cell_box (G3d.box_last) rfl,(G3d.cell ((set2_at (by decide)).trans tb.cell)).1⟩ ?_
 have hI:=ixx.app G3d
 refine callT (i:=12) 44 _ rfl (by kernel_rfl) rfl rfl rfl (by kernel_rfl) (enter_any B (l.map fun (x:Tp)=>x.1) (g.getD 0 []) _ rfl (H.fld 0) (by rw [List.length_map]; exact tb.few) l.length (by rw [List.length_map]) _ hI) ?_
 rintro u w4 ⟨m4,g4⟩
 have G4:=G3d.turn (t':=tIdx B ((l.map fun (x:Tp)=>x.1) ++ [g.getD 0 []])) ixx.app_at g4 (tIdx.at m4 (ixx.base G3d)) (fun k hk=>.inl hk)
 rw [List.set_append_left (h:=ixx.lt)] at G4
 refine ⟨⟨(G4.cell ((set2_at (by decide)).trans ixx.cell)).1,cell_box (G4.box_last) rfl,(G4.cell ((set2_at (by decide)).trans tb.cell)).1⟩,?_⟩
 refine doneT (by kernel_rfl) ?_
 clear m4 g4 hI G3d G3
 have HR:(ts.set 14 (tIdx B ((l.map fun (x:Tp)=>x.1) ++ [g.getD 0 []])))[4]? = some (tRow w0.heap.size ⟨56,5,.slice A l.length c,l.length,fl te l⟩):=(List.getElem?_set_ne (by decide)).trans tb.row
 obtain ⟨w5,h5⟩:∃ X,World.drew w4 = X:=⟨_,rfl⟩
 have G5:=G4.on (W':=w5) (by rw [← h5]; exact (Below.refl _ _).drew)
 go_wp2_with fail
 refine startZ (S:=fun X=>X.cell? ⟨F,6,none⟩ = some (.slice A l.length c)∧X.heap[b]? = some (.cells (c_tr g i_ro i_ca) 56 (0,0))) _ 13 12 rfl (by kernel_rfl) (by kernel_rfl) (by kernel_rfl) (bitsL 13 0) (by kernel_rfl) ?_
 rw [h5]
 refine takesZ (L:=[(0,45,pt F 0),(1,46,pt F 0),(2,47,pt F 0),(3,48,pt F 2),(4,49,pt F 6),(5,50,.slice A l.length c),(6,51,.agg (c_tr g i_ro i_ca))]) rfl (.q (.q (.q (.q (.q (.cons rfl rfl (.inl ⟨rfl,fun _ h=>by obtain ⟨h0,hb⟩:=h; dsimp only [pt]; go_simp; try with_reducible rfl⟩) (.cons rfl rfl (.inl ⟨rfl,fun _ h=>by obtain ⟨h0,hb⟩:=h; exact exec_load_row 56 (.tmp 2) (by kernel_rfl) b (by kernel_rfl) _ _ _ _ hb Tryz.underlying56 rfl (by kernel_rfl)⟩) .nil))))))) [0,1,2,3,4,5,6] rfl rfl (by kernel_rfl) (fun _ _ _ _ _ h=>h) ⟨(G5.cell ((set2_at (by decide)).trans tb.cell)).1,G5.box_last⟩ ?_
 obtain ⟨w6,h6⟩:∃ X,w5.alloc (.cells (c_tr g i_ro i_ca) 56 (0,0)) = X:=⟨_,rfl⟩
 have G6:=G5.on (W':=w6) (by rw [← h6]; exact (Below.refl _ _).alloc (Nat.le_refl _) _)
 have y6:=heap_alloc_new w5 (.cells (c_tr g i_ro i_ca) 56 (0,0))
 rw [h6] at y6
 refine makeZ (i:=7) (v:=.slice (some ⟨w5.heap.size,0,none⟩) 1 1) (w':=w6) 52 _ rfl (by kernel_rfl) rfl rfl rfl (by rw [← h6]; kernel_rfl) ⟨(G6.cell ((set2_at (by decide)).trans tb.cell)).1,G6.box_last⟩ rfl ?_
 obtain ⟨v7,w7,hr7,o7,g7,p7⟩:=run_appG (enc:=te) te_len (by decide) Tryz.underlying27 rinfo_tr rfl (by decide) w6 27 w0.heap.size (.slice A l.length c) l (x_tr g i_ro i_ca) (fun u hu=>by simp only [te,List.mem_cons,List.not_mem_nil,or_false] at hu; rcases hu with rfl | rfl | rfl | rfl | rfl <;> rfl) (G6.row (row_app HR)) _ _ y6 rfl G6.base.size (by have:=tb.few; omega)
 obtain ⟨A7,c7,e7,-⟩:=o7.lst
 have LN:(l ++ [((x_tr g i_ro i_ca):Tp)]).length = l.length + 1:=by simp
 have o7':w7.ownsRow w0.heap.size 56 5 v7 (l.length + 1) (fl te (l ++ [(x_tr g i_ro i_ca)])):=by have:=o7; unfold OwnG at this; rwa [LN] at this
 rw [LN] at e7
 subst e7
 have G7:=G6.turn (t':=tRow w0.heap.size ⟨56,5,.slice A7 (l.length + 1) c7,l.length + 1,fl te (l ++ [(x_tr g i_ro i_ca)])⟩) (row_app HR) g7 (tRow.at o7') p7
 rw [List.set_append_left (h:=(List.getElem?_eq_some_iff.1 HR).1)] at G7
 refine makeZ (i:=8) (v:=.slice A7 (l.length + 1) c7) (w':=w7) 53 _ rfl (by kernel_rfl) rfl rfl rfl (exec_append (s:=.tmp 50) (x:=.tmp 52) (ST:=27) (by kernel_rfl) (by kernel_rfl) (by kernel_rfl) hr7) ⟨(G7.cell ((set2_at (by decide)).trans tb.cell)).1,G7.box_last⟩ rfl ?_
 refine onesZ (L:=[(9,54,pt F 0),(10,55,pt F 2),(11,56,pt F 6)]) (.q (.q (.q .nil))) [9,10,11] rfl rfl (by kernel_rfl) ⟨(G7.cell ((set2_at (by decide)).trans tb.cell)).1,G7.box_last⟩ ?_
 obtain ⟨k0,k1⟩:=G7.cell (i:=6) ((set2_at (by decide)).trans tb.cell)
 refine storeZ (w':=w7.setCell ⟨F,6,none⟩ (.slice A7 (l.length + 1) c7)) _ rfl (by kernel_rfl) rfl rfl rfl (by go_simp; try with_reducible rfl) ?_
 refine doneZ (by kernel_rfl) ?_
 have G8:=(G7.put 6 (.slice A7 (l.length + 1) c7)).less
 have GE:=Lib.hid G8
 clear G8 G7 G6 G5 k0 k1 hr7 o7 o7' g7 p7 LN y6 h6 h5 HR
 generalize w7.setCell ⟨F,6,none⟩ (.slice A7 (l.length + 1) c7) = w8 at GE ⊢
 go_wp2_with fail
 go_end0
 exact ⟨rfl,HZ.out _ _ _ GE.out⟩
theorem rinfo_fr:(Tryz.prog.info? 118).map (fun i=>(i.zero,i.size,i.bytes)) = some (some (.agg #[.int .i64 0,.int .i64 0,.int .i64 0,.int .i64 0]),4,32):=by kernel_rfl
abbrev c_fr (F_:Fm) (g:List Bs) (i_tr:List Bs):Array Value:=#[.int .i64 (fnd 9 i_tr (g.getD 0 [])).1,.int .i64 (F_.tim (g.getD 1 [])).1,.int .i64 (F_.tim (g.getD 2 [])).1,.int .i64 (F_.dur (g.getD 3 [])).1]
abbrev x_fr (F_:Fm) (g:List Bs) (i_tr:List Bs):Fq:=((fnd 9 i_tr (g.getD 0 [])).1,(F_.tim (g.getD 1 [])).1,(F_.tim (g.getD 2 [])).1,(F_.dur (g.getD 3 [])).1)
abbrev e_fr (F_:Fm) (g:List Bs) (i_tr:List Bs):Int:=(fe1 (fe1 (fe1 (fe1 (fe1 0 (if (g.drop 0).length = 4 then 0 else 1)) (fnd 9 i_tr (g.getD 0 [])).2) (F_.tim (g.getD 1 [])).2) (F_.tim (g.getD 2 [])).2) (F_.dur (g.getD 3 [])).2)
theorem ad_fr (F_:Fm) {w0:World} {F:Nat} {vs:List Value} {ts:List Tng} {g:List Bs} {W:World} (H:Rec w0 F vs ts g W) (FO:Fo F_ w0) {v0:Value} {l:List Fq} (tb:Tbl w0 vs ts 5 118 4 v0 l.length (fl fe l)) {B_tr:Nat} {i_tr:List Bs} (X_tr:Ix vs ts 3 B_tr i_tr) :
  Calls Tryz.prog 89 #[.pointer (some ⟨F,0,none⟩)] W fun r w'=>r = .returned (.tuple #[])∧∃ v' v,Gst w0 F 80 ((set2 vs v' (e_fr F_ g i_tr)).set 7 v) (ts.set 5 (tRow w0.heap.size ⟨118,4,v,l.length + 1,fl fe (l ++ [(x_fr F_ g i_tr)])⟩)) w':=by
 suffices h:∀ Z:World→Prop,(∀ v' v w',Gst w0 F 80 ((set2 vs v' (e_fr F_ g i_tr)).set 7 v) (ts.set 5 (tRow w0.heap.size ⟨118,4,v,l.length + 1,fl fe (l ++ [(x_fr F_ g i_tr)])⟩)) w'→Z w')→Calls Tryz.prog 89 #[.pointer (some ⟨F,0,none⟩)] W fun r w'=>r = .returned (.tuple #[])∧Z w' from h _ (fun v' v _ h=>⟨v',v,h⟩)
 intro Z hZ
 have HZ:=Lib.hid hZ
 clear hZ
 obtain ⟨vq,pq⟩:=H.prd
 have C0:=Lib.hid (expect_any (F:=F) (vs:=vs) (g:=g) (W0:=W) 4 0 0 H.len W (Nx.start pq))
 clear pq
 go_enter Tryz.func89,Tryz.ntmps89
 go_wp2_with fail
 refine C0.out.mono ?_
 rintro r w1 ⟨rfl,n1,-⟩
 have N1:=Lib.hid (n1.on (Below.refl _ _).drew)
 clear n1 C0
 go_wp2_with fail
 refine startT (S:=fun X=>X.cell? ⟨F,20,none⟩ = some (.map (some B_tr))) _ 23 rfl (by kernel_rfl) (by kernel_rfl) (by kernel_rfl) (bitsL 23 0) (by kernel_rfl) (N1.out.cell (by decide) X_tr.cell) (fun _=>?_)
 refine takesT (L:=[(0,7,pt F 0),(1,8,pt F 0),(2,9,pt F 0),(3,10,pt F 0),(4,11,pt F 0),(5,12,pt F 20),(6,13,.map (some B_tr)),(8,15,pt F 0),(9,16,pt F 0),(10,17,pt F 0),(12,19,pt F 0),(13,20,pt F 0),(14,21,pt F 0),(16,23,pt F 0),(17,24,pt F 0),(18,25,pt F 0)]) (.q (.q (.q (.q (.q (.q (.cons rfl rfl (.inl ⟨rfl,fun _ h=>by have h0:=h; dsimp only [pt]; go_simp; try with_reducible rfl⟩) (.q (.q (.q (.q (.q (.q (.q (.q (.q .nil)))))))))))))))) [0,1,2,3,4,5,6,8,9,10,12,13,14,16,17,18] rfl rfl (by kernel_rfl) (fun _ _ _ _ _ h=>h) (N1.out.cell (by decide) X_tr.cell) ?_
 refine runsT (j:=21) (dj:=2) (v:=fun X=>.pointer (some ⟨X.heap.size,0,none⟩)) (m:=fun X=>X.alloc (.cells #[.int .i64 0,.int .i64 0,.int .i64 0,.int .i64 0] 118 (0,0))) (L:=Lq W (.cells #[.int .i64 0,.int .i64 0,.int .i64 0,.int .i64 0] 118 (0,0))) (G:=Nx F vs g W 0 (fe1 0 (if (g.drop 0).length = 4 then 0 else 1))) (I:=[7,11,15,19,20]) (.rd 14 (.int .i64 (fnd 9 i_tr (g.getD 0 [])).1) rfl rfl (by decide) (fun _=>rfl) (fun _=>by kernel_rfl) (fun _ _=>by kernel_rfl) (ref_any B_tr i_tr (X_tr.off H.st).1 (X_tr.off H.st).2 0 _ (H.fld _)) (fun X h=>(h.cell (by decide) X_tr.cell)) (.rd 18 (.int .i64 (F_.tim (g.getD 1 [])).1) rfl rfl (by decide) (fun _=>rfl) (fun _=>by kernel_rfl) (fun _ _=>by kernel_rfl) (time_any F_ 1 _ (fun w h=>FO.tim _ (H.fld _) w (H.low h))) (fun X h=>(h.cell (by decide) X_tr.cell)) (.rd 22 (.int .i64 (F_.tim (g.getD 2 [])).1) rfl rfl (by decide) (fun _=>rfl) (fun _=>by kernel_rfl) (fun _ _=>by kernel_rfl) (time_any F_ 2 _ (fun w h=>FO.tim _ (H.fld _) w (H.low h))) (fun X h=>(h.cell (by decide) X_tr.cell)) (.rd 26 (.int .i64 (F_.dur (g.getD 3 [])).1) rfl rfl (by decide) (fun _=>rfl) (fun _=>by kernel_rfl) (fun _ _=>by kernel_rfl) (duration_any F_ 3 _ (fun w h=>FO.dur _ (H.fld _) w (H.low h))) (fun X h=>(h.cell (by decide) X_tr.cell)) (.step 27 (.agg (c_fr F_ g i_tr)) rfl rfl (by decide) (fun _=>rfl) (fun _=>by kernel_rfl) (fun _ _=>by kernel_rfl) (Nx.new _) (fun X h=>(h.cell (by decide) X_tr.cell)) (.nil (Nx.new _) (fun X h=>(h.cell (by decide) X_tr.cell)))))))) rfl rfl (fun _=>rfl) (fun _ _=>by kernel_rfl) rfl (by kernel_rfl) N1.out ?_
 rintro q w2 n2 ⟨b,rfl,hb0,hb1⟩
 obtain ⟨v',G2⟩:=H.up n2
 have G3:=H.st.boxed G2 hb0 hb1 (c_fr F_ g i_tr)
 refine storeT (i:=22) _ rfl (by kernel_rfl) rfl rfl rfl (exec_store_row 118 (.tmp 2) (.tmp 27) (by kernel_rfl) b (c_fr F_ g i_tr) (by kernel_rfl) (by kernel_rfl) _ _ hb1 (by kernel_rfl) (by kernel_rfl) (by kernel_rfl)) ((G3.cell ((set2_at (by decide)).trans X_tr.cell)).1) ?_
 refine doneT (by kernel_rfl) ?_
 clear n2 hb0 hb1 G2 N1
 generalize w2.setRow b (c_fr F_ g i_tr) = w3 at G3 ⊢
 obtain ⟨A,c,rfl⟩:=tb.slice H.st
 have HR:ts[5]? = some (tRow w0.heap.size ⟨118,4,.slice A l.length c,l.length,fl fe l⟩):=tb.row
 obtain ⟨w5,h5⟩:∃ X,World.drew w3 = X:=⟨_,rfl⟩
 have G5:=G3.on (W':=w5) (by rw [← h5]; exact (Below.refl _ _).drew)
 go_wp2_with fail
 refine startZ (S:=fun X=>X.cell? ⟨F,7,none⟩ = some (.slice A l.length c)∧X.heap[b]? = some (.cells (c_fr F_ g i_tr) 118 (0,0))) _ 13 12 rfl (by kernel_rfl) (by kernel_rfl) (by kernel_rfl) (bitsL 13 0) (by kernel_rfl) ?_
 rw [h5]
 refine takesZ (L:=[(0,28,pt F 0),(1,29,pt F 0),(2,30,pt F 0),(3,31,pt F 2),(4,32,pt F 7),(5,33,.slice A l.length c),(6,34,.agg (c_fr F_ g i_tr))]) rfl (.q (.q (.q (.q (.q (.cons rfl rfl (.inl ⟨rfl,fun _ h=>by obtain ⟨h0,hb⟩:=h; dsimp only [pt]; go_simp; try with_reducible rfl⟩) (.cons rfl rfl (.inl ⟨rfl,fun _ h=>by obtain ⟨h0,hb⟩:=h; exact exec_load_row 118 (.tmp 2) (by kernel_rfl) b (by kernel_rfl) _ _ _ _ hb Tryz.underlying118 rfl (by kernel_rfl)⟩) .nil))))))) [0,1,2,3,4,5,6] rfl rfl (by kernel_rfl) (fun _ _ _ _ _ h=>h) ⟨(G5.cell ((set2_at (by decide)).trans tb.cell)).1,G5.box_last⟩ ?_
 obtain ⟨w6,h6⟩:∃ X,w5.alloc (.cells (c_fr F_ g i_tr) 118 (0,0)) = X:=⟨_,rfl⟩
 have G6:=G5.on (W':=w6) (by rw [← h6]; exact (Below.refl _ _).alloc (Nat.le_refl _) _)
 have y6:=heap_alloc_new w5 (.cells (c_fr F_ g i_tr) 118 (0,0))
 rw [h6] at y6
 refine makeZ (i:=7) (v:=.slice (some ⟨w5.heap.size,0,none⟩) 1 1) (w':=w6) 35 _ rfl (by kernel_rfl) rfl rfl rfl (by rw [← h6]; kernel_rfl) ⟨(G6.cell ((set2_at (by decide)).trans tb.cell)).1,G6.box_last⟩ rfl ?_
 obtain ⟨v7,w7,hr7,o7,g7,p7⟩:=run_appG (enc:=fe) fe_len (by decide) Tryz.underlying28 rinfo_fr rfl (by decide) w6 28 w0.heap.size (.slice A l.length c) l (x_fr F_ g i_tr) (fun u hu=>by simp only [fe,List.mem_cons,List.not_mem_nil,or_false] at hu; rcases hu with rfl | rfl | rfl | rfl <;> rfl) (G6.row (row_app HR)) _ _ y6 rfl G6.base.size (by have:=tb.few; omega)
 obtain ⟨A7,c7,e7,-⟩:=o7.lst
 have LN:(l ++ [((x_fr F_ g i_tr):Fq)]).length = l.length + 1:=by simp
 have o7':w7.ownsRow w0.heap.size 118 4 v7 (l.length + 1) (fl fe (l ++ [(x_fr F_ g i_tr)])):=by have:=o7; unfold OwnG at this; rwa [LN] at this
 rw [LN] at e7
 subst e7
 have G7:=G6.turn (t':=tRow w0.heap.size ⟨118,4,.slice A7 (l.length + 1) c7,l.length + 1,fl fe (l ++ [(x_fr F_ g i_tr)])⟩) (row_app HR) g7 (tRow.at o7') p7
 rw [List.set_append_left (h:=(List.getElem?_eq_some_iff.1 HR).1)] at G7
 refine makeZ (i:=8) (v:=.slice A7 (l.length + 1) c7) (w':=w7) 36 _ rfl (by kernel_rfl) rfl rfl rfl (exec_append (s:=.tmp 33) (x:=.tmp 35) (ST:=28) (by kernel_rfl) (by kernel_rfl) (by kernel_rfl) hr7) ⟨(G7.cell ((set2_at (by decide)).trans tb.cell)).1,G7.box_last⟩ rfl ?_
 refine onesZ (L:=[(9,37,pt F 0),(10,38,pt F 2),(11,39,pt F 7)]) (.q (.q (.q .nil))) [9,10,11] rfl rfl (by kernel_rfl) ⟨(G7.cell ((set2_at (by decide)).trans tb.cell)).1,G7.box_last⟩ ?_
 obtain ⟨k0,k1⟩:=G7.cell (i:=7) ((set2_at (by decide)).trans tb.cell)
 refine storeZ (w':=w7.setCell ⟨F,7,none⟩ (.slice A7 (l.length + 1) c7)) _ rfl (by kernel_rfl) rfl rfl rfl (by go_simp; try with_reducible rfl) ?_
 refine doneZ (by kernel_rfl) ?_
 have G8:=(G7.put 7 (.slice A7 (l.length + 1) c7)).less
 have GE:=Lib.hid G8
 clear G8 G7 G6 G5 k0 k1 hr7 o7 o7' g7 p7 LN y6 h6 h5 HR
 generalize w7.setCell ⟨F,7,none⟩ (.slice A7 (l.length + 1) c7) = w8 at GE ⊢
 go_wp2_with fail
 go_end0
 exact ⟨rfl,HZ.out _ _ _ GE.out⟩
theorem rinfo_th:(Tryz.prog.info? 120).map (fun i=>(i.zero,i.size,i.bytes)) = some (some (.agg #[.int .i64 0,.int .i64 0]),2,16):=by kernel_rfl
abbrev c_th (g:List Bs) (i_tr:List Bs):Array Value:=#[.int .i64 (fnd 9 i_tr (g.getD 0 [])).1,.int .i64 (fnd 9 i_tr (g.getD 1 [])).1]
abbrev x_th (g:List Bs) (i_tr:List Bs):S19.Th:=((fnd 9 i_tr (g.getD 0 [])).1,(fnd 9 i_tr (g.getD 1 [])).1)
abbrev e_th (g:List Bs) (i_tr:List Bs):Int:=(fe1 (fe1 (fe1 0 (if (g.drop 0).length = 2 then 0 else 1)) (fnd 9 i_tr (g.getD 0 [])).2) (fnd 9 i_tr (g.getD 1 [])).2)
theorem ad_th {w0:World} {F:Nat} {vs:List Value} {ts:List Tng} {g:List Bs} {W:World} (H:Rec w0 F vs ts g W) {v0:Value} {l:List S19.Th} (tb:Tbl w0 vs ts 6 120 2 v0 l.length (fl S19.hh l)) {B_tr:Nat} {i_tr:List Bs} (X_tr:Ix vs ts 3 B_tr i_tr) :
  Calls Tryz.prog 90 #[.pointer (some ⟨F,0,none⟩)] W fun r w'=>r = .returned (.tuple #[])∧∃ v' v,Gst w0 F 80 ((set2 vs v' (e_th g i_tr)).set 8 v) (ts.set 6 (tRow w0.heap.size ⟨120,2,v,l.length + 1,fl S19.hh (l ++ [(x_th g i_tr)])⟩)) w':=by
 suffices h:∀ Z:World→Prop,(∀ v' v w',Gst w0 F 80 ((set2 vs v' (e_th g i_tr)).set 8 v) (ts.set 6 (tRow w0.heap.size ⟨120,2,v,l.length + 1,fl S19.hh (l ++ [(x_th g i_tr)])⟩)) w'→Z w')→Calls Tryz.prog 90 #[.pointer (some ⟨F,0,none⟩)] W fun r w'=>r = .returned (.tuple #[])∧Z w' from h _ (fun v' v _ h=>⟨v',v,h⟩)
 intro Z hZ
 have HZ:=Lib.hid hZ
 clear hZ
 obtain ⟨vq,pq⟩:=H.prd
 have C0:=Lib.hid (expect_any (F:=F) (vs:=vs) (g:=g) (W0:=W) 2 0 0 H.len W (Nx.start pq))
 clear pq
 go_enter Tryz.func90,Tryz.ntmps90
 go_wp2_with fail
 refine C0.out.mono ?_
 rintro r w1 ⟨rfl,n1,-⟩
 have N1:=Lib.hid (n1.on (Below.refl _ _).drew)
 clear n1 C0
 go_wp2_with fail
 refine startT (S:=fun X=>X.cell? ⟨F,20,none⟩ = some (.map (some B_tr))) _ 19 rfl (by kernel_rfl) (by kernel_rfl) (by kernel_rfl) (bitsL 19 0) (by kernel_rfl) (N1.out.cell (by decide) X_tr.cell) (fun _=>?_)
 refine takesT (L:=[(0,7,pt F 0),(1,8,pt F 0),(2,9,pt F 0),(3,10,pt F 0),(4,11,pt F 0),(5,12,pt F 20),(6,13,.map (some B_tr)),(8,15,pt F 0),(9,16,pt F 0),(10,17,pt F 0),(11,18,pt F 0),(12,19,pt F 0),(13,20,pt F 20),(14,21,.map (some B_tr))]) (.q (.q (.q (.q (.q (.q (.cons rfl rfl (.inl ⟨rfl,fun _ h=>by have h0:=h; dsimp only [pt]; go_simp; try with_reducible rfl⟩) (.q (.q (.q (.q (.q (.q (.cons rfl rfl (.inl ⟨rfl,fun _ h=>by have h0:=h; dsimp only [pt]; go_simp; try with_reducible rfl⟩) .nil)))))))))))))) [0,1,2,3,4,5,6,8,9,10,11,12,13,14] rfl rfl (by kernel_rfl) (fun _ _ _ _ _ h=>h) (N1.out.cell (by decide) X_tr.cell) ?_
 refine runsT (j:=17) (dj:=2) (v:=fun X=>.pointer (some ⟨X.heap.size,0,none⟩)) (m:=fun X=>X.alloc (.cells #[.int .i64 0,.int .i64 0] 120 (0,0))) (L:=Lq W (.cells #[.int .i64 0,.int .i64 0] 120 (0,0))) (G:=Nx F vs g W 0 (fe1 0 (if (g.drop 0).length = 2 then 0 else 1))) (I:=[7,15,16]) (.rd 14 (.int .i64 (fnd 9 i_tr (g.getD 0 [])).1) rfl rfl (by decide) (fun _=>rfl) (fun _=>by kernel_rfl) (fun _ _=>by kernel_rfl) (ref_any B_tr i_tr (X_tr.off H.st).1 (X_tr.off H.st).2 0 _ (H.fld _)) (fun X h=>(h.cell (by decide) X_tr.cell)) (.rd 22 (.int .i64 (fnd 9 i_tr (g.getD 1 [])).1) rfl rfl (by decide) (fun _=>rfl) (fun _=>by kernel_rfl) (fun _ _=>by kernel_rfl) (ref_any B_tr i_tr (X_tr.off H.st).1 (X_tr.off H.st).2 1 _ (H.fld _)) (fun X h=>(h.cell (by decide) X_tr.cell)) (.step 23 (.agg (c_th g i_tr)) rfl rfl (by decide) (fun _=>rfl) (fun _=>by kernel_rfl) (fun _ _=>by kernel_rfl) (Nx.new _) (fun X h=>(h.cell (by decide) X_tr.cell)) (.nil (Nx.new _) (fun X h=>(h.cell (by decide) X_tr.cell)))))) rfl rfl (fun _=>rfl) (fun _ _=>by kernel_rfl) rfl (by kernel_rfl) N1.out ?_
 rintro q w2 n2 ⟨b,rfl,hb0,hb1⟩
 obtain ⟨v',G2⟩:=H.up n2
 have G3:=H.st.boxed G2 hb0 hb1 (c_th g i_tr)
 refine storeT (i:=18) _ rfl (by kernel_rfl) rfl rfl rfl (exec_store_row 120 (.tmp 2) (.tmp 23) (by kernel_rfl) b (c_th g i_tr) (by kernel_rfl) (by kernel_rfl) _ _ hb1 (by kernel_rfl) (by kernel_rfl) (by kernel_rfl)) ((G3.cell ((set2_at (by decide)).trans X_tr.cell)).1) ?_
 refine doneT (by kernel_rfl) ?_
 clear n2 hb0 hb1 G2 N1
 generalize w2.setRow b (c_th g i_tr) = w3 at G3 ⊢
 obtain ⟨A,c,rfl⟩:=tb.slice H.st
 have HR:ts[6]? = some (tRow w0.heap.size ⟨120,2,.slice A l.length c,l.length,fl S19.hh l⟩):=tb.row
 obtain ⟨w5,h5⟩:∃ X,World.drew w3 = X:=⟨_,rfl⟩
 have G5:=G3.on (W':=w5) (by rw [← h5]; exact (Below.refl _ _).drew)
 go_wp2_with fail
 refine startZ (S:=fun X=>X.cell? ⟨F,8,none⟩ = some (.slice A l.length c)∧X.heap[b]? = some (.cells (c_th g i_tr) 120 (0,0))) _ 13 12 rfl (by kernel_rfl) (by kernel_rfl) (by kernel_rfl) (bitsL 13 0) (by kernel_rfl) ?_
 rw [h5]
 refine takesZ (L:=[(0,24,pt F 0),(1,25,pt F 0),(2,26,pt F 0),(3,27,pt F 2),(4,28,pt F 8),(5,29,.slice A l.length c),(6,30,.agg (c_th g i_tr))]) rfl (.q (.q (.q (.q (.q (.cons rfl rfl (.inl ⟨rfl,fun _ h=>by obtain ⟨h0,hb⟩:=h; dsimp only [pt]; go_simp; try with_reducible rfl⟩) (.cons rfl rfl (.inl ⟨rfl,fun _ h=>by obtain ⟨h0,hb⟩:=h; exact exec_load_row 120 (.tmp 2) (by kernel_rfl) b (by kernel_rfl) _ _ _ _ hb Tryz.underlying120 rfl (by kernel_rfl)⟩) .nil))))))) [0,1,2,3,4,5,6] rfl rfl (by kernel_rfl) (fun _ _ _ _ _ h=>h) ⟨(G5.cell ((set2_at (by decide)).trans tb.cell)).1,G5.box_last⟩ ?_
 obtain ⟨w6,h6⟩:∃ X,w5.alloc (.cells (c_th g i_tr) 120 (0,0)) = X:=⟨_,rfl⟩
 have G6:=G5.on (W':=w6) (by rw [← h6]; exact (Below.refl _ _).alloc (Nat.le_refl _) _)
 have y6:=heap_alloc_new w5 (.cells (c_th g i_tr) 120 (0,0))
 rw [h6] at y6
 refine makeZ (i:=7) (v:=.slice (some ⟨w5.heap.size,0,none⟩) 1 1) (w':=w6) 31 _ rfl (by kernel_rfl) rfl rfl rfl (by rw [← h6]; kernel_rfl) ⟨(G6.cell ((set2_at (by decide)).trans tb.cell)).1,G6.box_last⟩ rfl ?_
 obtain ⟨v7,w7,hr7,o7,g7,p7⟩:=run_appG (enc:=S19.hh) S19.hh_len (by decide) Tryz.underlying29 rinfo_th rfl (by decide) w6 29 w0.heap.size (.slice A l.length c) l (x_th g i_tr) (fun u hu=>by simp only [S19.hh,List.mem_cons,List.not_mem_nil,or_false] at hu; rcases hu with rfl | rfl <;> rfl) (G6.row (row_app HR)) _ _ y6 rfl G6.base.size (by have:=tb.few; omega)
 obtain ⟨A7,c7,e7,-⟩:=o7.lst
 have LN:(l ++ [((x_th g i_tr):S19.Th)]).length = l.length + 1:=by simp
 have o7':w7.ownsRow w0.heap.size 120 2 v7 (l.length + 1) (fl S19.hh (l ++ [(x_th g i_tr)])):=by have:=o7; unfold OwnG at this; rwa [LN] at this
 rw [LN] at e7
 subst e7
 have G7:=G6.turn (t':=tRow w0.heap.size ⟨120,2,.slice A7 (l.length + 1) c7,l.length + 1,fl S19.hh (l ++ [(x_th g i_tr)])⟩) (row_app HR) g7 (tRow.at o7') p7
 rw [List.set_append_left (h:=(List.getElem?_eq_some_iff.1 HR).1)] at G7
 refine makeZ (i:=8) (v:=.slice A7 (l.length + 1) c7) (w':=w7) 32 _ rfl (by kernel_rfl) rfl rfl rfl (exec_append (s:=.tmp 29) (x:=.tmp 31) (ST:=29) (by kernel_rfl) (by kernel_rfl) (by kernel_rfl) hr7) ⟨(G7.cell ((set2_at (by decide)).trans tb.cell)).1,G7.box_last⟩ rfl ?_
 refine onesZ (L:=[(9,33,pt F 0),(10,34,pt F 2),(11,35,pt F 8)]) (.q (.q (.q .nil))) [9,10,11] rfl rfl (by kernel_rfl) ⟨(G7.cell ((set2_at (by decide)).trans tb.cell)).1,G7.box_last⟩ ?_
 obtain ⟨k0,k1⟩:=G7.cell (i:=8) ((set2_at (by decide)).trans tb.cell)
 refine storeZ (w':=w7.setCell ⟨F,8,none⟩ (.slice A7 (l.length + 1) c7)) _ rfl (by kernel_rfl) rfl rfl rfl (by go_simp; try with_reducible rfl) ?_
 refine doneZ (by kernel_rfl) ?_
 have G8:=(G7.put 8 (.slice A7 (l.length + 1) c7)).less
 have GE:=Lib.hid G8
 clear G8 G7 G6 G5 k0 k1 hr7 o7 o7' g7 p7 LN y6 h6 h5 HR
 generalize w7.setCell ⟨F,8,none⟩ (.slice A7 (l.length + 1) c7) = w8 at GE ⊢
 go_wp2_with fail
 go_end0
 exact ⟨rfl,HZ.out _ _ _ GE.out⟩
theorem rinfo_gu:(Tryz.prog.info? 122).map (fun i=>(i.zero,i.size,i.bytes)) = some (some (.agg #[.int .i64 0,.int .i64 0,.int .i64 0]),3,24):=by kernel_rfl
abbrev c_gu (g:List Bs) (i_tr i_st:List Bs):Array Value:=#[.int .i64 (fnd 9 i_tr (g.getD 0 [])).1,.int .i64 (fnd 9 i_tr (g.getD 1 [])).1,.int .i64 (fnd 9 i_st (g.getD 2 [])).1]
abbrev x_gu (g:List Bs) (i_tr i_st:List Bs):S19.Gt:=((fnd 9 i_tr (g.getD 0 [])).1,(fnd 9 i_tr (g.getD 1 [])).1,(fnd 9 i_st (g.getD 2 [])).1)
abbrev e_gu (g:List Bs) (i_tr i_st:List Bs):Int:=(fe1 (fe1 (fe1 (fe1 0 (if (g.drop 0).length = 3 then 0 else 1)) (fnd 9 i_tr (g.getD 0 [])).2) (fnd 9 i_tr (g.getD 1 [])).2) (fnd 9 i_st (g.getD 2 [])).2)
theorem ad_gu {w0:World} {F:Nat} {vs:List Value} {ts:List Tng} {g:List Bs} {W:World} (H:Rec w0 F vs ts g W) {v0:Value} {l:List S19.Gt} (tb:Tbl w0 vs ts 7 122 3 v0 l.length (fl S19.gg l)) {B_tr:Nat} {i_tr:List Bs} (X_tr:Ix vs ts 3 B_tr i_tr) {B_st:Nat} {i_st:List Bs} (X_st:Ix vs ts 0 B_st i_st) :
  Calls Tryz.prog 91 #[.pointer (some ⟨F,0,none⟩)] W fun r w'=>r = .returned (.tuple #[])∧∃ v' v,Gst w0 F 80 ((set2 vs v' (e_gu g i_tr i_st)).set 9 v) (ts.set 7 (tRow w0.heap.size ⟨122,3,v,l.length + 1,fl S19.gg (l ++ [(x_gu g i_tr i_st)])⟩)) w':=by
 suffices h:∀ Z:World→Prop,(∀ v' v w',Gst w0 F 80 ((set2 vs v' (e_gu g i_tr i_st)).set 9 v) (ts.set 7 (tRow w0.heap.size ⟨122,3,v,l.length + 1,fl S19.gg (l ++ [(x_gu g i_tr i_st)])⟩)) w'→Z w')→Calls Tryz.prog 91 #[.pointer (some ⟨F,0,none⟩)] W fun r w'=>r = .returned (.tuple #[])∧Z w' from h _ (fun v' v _ h=>⟨v',v,h⟩)
 intro Z hZ
 have HZ:=Lib.hid hZ
 clear hZ
 obtain ⟨vq,pq⟩:=H.prd
 have C0:=Lib.hid (expect_any (F:=F) (vs:=vs) (g:=g) (W0:=W) 3 0 0 H.len W (Nx.start pq))
 clear pq
 go_enter Tryz.func91,Tryz.ntmps91
 go_wp2_with fail
 refine C0.out.mono ?_
 rintro r w1 ⟨rfl,n1,-⟩
 have N1:=Lib.hid (n1.on (Below.refl _ _).drew)
 clear n1 C0
 go_wp2_with fail
 refine startT (S:=fun X=>X.cell? ⟨F,20,none⟩ = some (.map (some B_tr))∧X.cell? ⟨F,17,none⟩ = some (.map (some B_st))) _ 27 rfl (by kernel_rfl) (by kernel_rfl) (by kernel_rfl) (bitsL 27 0) (by kernel_rfl) ⟨N1.out.cell (by decide) X_tr.cell,N1.out.cell (by decide) X_st.cell⟩ (fun _=>?_)
 refine takesT (L:=[(0,7,pt F 0),(1,8,pt F 0),(2,9,pt F 0),(3,10,pt F 0),(4,11,pt F 0),(5,12,pt F 20),(6,13,.map (some B_tr)),(8,15,pt F 0),(9,16,pt F 0),(10,17,pt F 0),(11,18,pt F 0),(12,19,pt F 0),(13,20,pt F 20),(14,21,.map (some B_tr)),(16,23,pt F 0),(17,24,pt F 0),(18,25,pt F 0),(19,26,pt F 0),(20,27,pt F 0),(21,28,pt F 17),(22,29,.map (some B_st))]) (.q (.q (.q (.q (.q (.q (.cons rfl rfl (.inl ⟨rfl,fun _ h=>by obtain ⟨h0,h1⟩:=h; dsimp only [pt]; go_simp; try with_reducible rfl⟩) (.q (.q (.q (.q (.q (.q (.cons rfl rfl (.inl ⟨rfl,fun _ h=>by obtain ⟨h0,h1⟩:=h; dsimp only [pt]; go_simp; try with_reducible rfl⟩) (.q (.q (.q (.q (.q (.q (.cons rfl rfl (.inl ⟨rfl,fun _ h=>by obtain ⟨h0,h1⟩:=h; dsimp only [pt]; go_simp; try with_reducible rfl⟩) .nil))))))))))))))))))))) [0,1,2,3,4,5,6,8,9,10,11,12,13,14,16,17,18,19,20,21,22] rfl rfl (by kernel_rfl) (fun _ _ _ _ _ h=>h) ⟨N1.out.cell (by decide) X_tr.cell,N1.out.cell (by decide) X_st.cell⟩ ?_
 refine runsT (j:=25) (dj:=2) (v:=fun X=>.pointer (some ⟨X.heap.size,0,none⟩)) (m:=fun X=>X.alloc (.cells #[.int .i64 0,.int .i64 0,.int .i64 0] 122 (0,0))) (L:=Lq W (.cells #[.int .i64 0,.int .i64 0,.int .i64 0] 122 (0,0))) (G:=Nx F vs g W 0 (fe1 0 (if (g.drop 0).length = 3 then 0 else 1))) (I:=[7,15,23,24]) (.rd 14 (.int .i64 (fnd 9 i_tr (g.getD 0 [])).1) rfl rfl (by decide) (fun _=>rfl) (fun _=>by kernel_rfl) (fun _ _=>by kernel_rfl) (ref_any B_tr i_tr (X_tr.off H.st).1 (X_tr.off H.st).2 0 _ (H.fld _)) (fun X h=>⟨h.cell (by decide) X_tr.cell,h.cell (by decide) X_st.cell⟩) (.rd 22 (.int .i64 (fnd 9 i_tr (g.getD 1 [])).1) rfl rfl (by decide) (fun _=>rfl) (fun _=>by kernel_rfl) (fun _ _=>by kernel_rfl) (ref_any B_tr i_tr (X_tr.off H.st).1 (X_tr.off H.st).2 1 _ (H.fld _)) (fun X h=>⟨h.cell (by decide) X_tr.cell,h.cell (by decide) X_st.cell⟩) (.rd 30 (.int .i64 (fnd 9 i_st (g.getD 2 [])).1) rfl rfl (by decide) (fun _=>rfl) (fun _=>by kernel_rfl) (fun _ _=>by kernel_rfl) (ref_any B_st i_st (X_st.off H.st).1 (X_st.off H.st).2 2 _ (H.fld _)) (fun X h=>⟨h.cell (by decide) X_tr.cell,h.cell (by decide) X_st.cell⟩) (.step 31 (.agg (c_gu g i_tr i_st)) rfl rfl (by decide) (fun _=>rfl) (fun _=>by kernel_rfl) (fun _ _=>by kernel_rfl) (Nx.new _) (fun X h=>⟨h.cell (by decide) X_tr.cell,h.cell (by decide) X_st.cell⟩) (.nil (Nx.new _) (fun X h=>⟨h.cell (by decide) X_tr.cell,h.cell (by decide) X_st.cell⟩)))))) rfl rfl (fun _=>rfl) (fun _ _=>by kernel_rfl) rfl (by kernel_rfl) N1.out ?_
 rintro q w2 n2 ⟨b,rfl,hb0,hb1⟩
 obtain ⟨v',G2⟩:=H.up n2
 have G3:=H.st.boxed G2 hb0 hb1 (c_gu g i_tr i_st)
 refine storeT (i:=26) _ rfl (by kernel_rfl) rfl rfl rfl (exec_store_row 122 (.tmp 2) (.tmp 31) (by kernel_rfl) b (c_gu g i_tr i_st) (by kernel_rfl) (by kernel_rfl) _ _ hb1 (by kernel_rfl) (by kernel_rfl) (by kernel_rfl)) ⟨(G3.cell ((set2_at (by decide)).trans X_tr.cell)).1,(G3.cell ((set2_at (by decide)).trans X_st.cell)).1⟩ ?_
 refine doneT (by kernel_rfl) ?_
 clear n2 hb0 hb1 G2 N1
 generalize w2.setRow b (c_gu g i_tr i_st) = w3 at G3 ⊢
 obtain ⟨A,c,rfl⟩:=tb.slice H.st
 have HR:ts[7]? = some (tRow w0.heap.size ⟨122,3,.slice A l.length c,l.length,fl S19.gg l⟩):=tb.row
 obtain ⟨w5,h5⟩:∃ X,World.drew w3 = X:=⟨_,rfl⟩
 have G5:=G3.on (W':=w5) (by rw [← h5]; exact (Below.refl _ _).drew)
 go_wp2_with fail
 refine startZ (S:=fun X=>X.cell? ⟨F,9,none⟩ = some (.slice A l.length c)∧X.heap[b]? = some (.cells (c_gu g i_tr i_st) 122 (0,0))) _ 13 12 rfl (by kernel_rfl) (by kernel_rfl) (by kernel_rfl) (bitsL 13 0) (by kernel_rfl) ?_
 rw [h5]
 refine takesZ (L:=[(0,32,pt F 0),(1,33,pt F 0),(2,34,pt F 0),(3,35,pt F 2),(4,36,pt F 9),(5,37,.slice A l.length c),(6,38,.agg (c_gu g i_tr i_st))]) rfl (.q (.q (.q (.q (.q (.cons rfl rfl (.inl ⟨rfl,fun _ h=>by obtain ⟨h0,hb⟩:=h; dsimp only [pt]; go_simp; try with_reducible rfl⟩) (.cons rfl rfl (.inl ⟨rfl,fun _ h=>by obtain ⟨h0,hb⟩:=h; exact exec_load_row 122 (.tmp 2) (by kernel_rfl) b (by kernel_rfl) _ _ _ _ hb Tryz.underlying122 rfl (by kernel_rfl)⟩) .nil))))))) [0,1,2,3,4,5,6] rfl rfl (by kernel_rfl) (fun _ _ _ _ _ h=>h) ⟨(G5.cell ((set2_at (by decide)).trans tb.cell)).1,G5.box_last⟩ ?_
 obtain ⟨w6,h6⟩:∃ X,w5.alloc (.cells (c_gu g i_tr i_st) 122 (0,0)) = X:=⟨_,rfl⟩
 have G6:=G5.on (W':=w6) (by rw [← h6]; exact (Below.refl _ _).alloc (Nat.le_refl _) _)
 have y6:=heap_alloc_new w5 (.cells (c_gu g i_tr i_st) 122 (0,0))
 rw [h6] at y6
 refine makeZ (i:=7) (v:=.slice (some ⟨w5.heap.size,0,none⟩) 1 1) (w':=w6) 39 _ rfl (by kernel_rfl) rfl rfl rfl (by rw [← h6]; kernel_rfl) ⟨(G6.cell ((set2_at (by decide)).trans tb.cell)).1,G6.box_last⟩ rfl ?_
 obtain ⟨v7,w7,hr7,o7,g7,p7⟩:=run_appG (enc:=S19.gg) S19.gg_len (by decide) Tryz.underlying30 rinfo_gu rfl (by decide) w6 30 w0.heap.size (.slice A l.length c) l (x_gu g i_tr i_st) (fun u hu=>by simp only [S19.gg,List.mem_cons,List.not_mem_nil,or_false] at hu; rcases hu with rfl | rfl | rfl <;> rfl) (G6.row (row_app HR)) _ _ y6 rfl G6.base.size (by have:=tb.few; omega)
 obtain ⟨A7,c7,e7,-⟩:=o7.lst
 have LN:(l ++ [((x_gu g i_tr i_st):S19.Gt)]).length = l.length + 1:=by simp
 have o7':w7.ownsRow w0.heap.size 122 3 v7 (l.length + 1) (fl S19.gg (l ++ [(x_gu g i_tr i_st)])):=by have:=o7; unfold OwnG at this; rwa [LN] at this
 rw [LN] at e7
 subst e7
 have G7:=G6.turn (t':=tRow w0.heap.size ⟨122,3,.slice A7 (l.length + 1) c7,l.length + 1,fl S19.gg (l ++ [(x_gu g i_tr i_st)])⟩) (row_app HR) g7 (tRow.at o7') p7
 rw [List.set_append_left (h:=(List.getElem?_eq_some_iff.1 HR).1)] at G7
 refine makeZ (i:=8) (v:=.slice A7 (l.length + 1) c7) (w':=w7) 40 _ rfl (by kernel_rfl) rfl rfl rfl (exec_append (s:=.tmp 37) (x:=.tmp 39) (ST:=30) (by kernel_rfl) (by kernel_rfl) (by kernel_rfl) hr7) ⟨(G7.cell ((set2_at (by decide)).trans tb.cell)).1,G7.box_last⟩ rfl ?_
 refine onesZ (L:=[(9,41,pt F 0),(10,42,pt F 2),(11,43,pt F 9)]) (.q (.q (.q .nil))) [9,10,11] rfl rfl (by kernel_rfl) ⟨(G7.cell ((set2_at (by decide)).trans tb.cell)).1,G7.box_last⟩ ?_
 obtain ⟨k0,k1⟩:=G7.cell (i:=9) ((set2_at (by decide)).trans tb.cell)
 refine storeZ (w':=w7.setCell ⟨F,9,none⟩ (.slice A7 (l.length + 1) c7)) _ rfl (by kernel_rfl) rfl rfl rfl (by go_simp; try with_reducible rfl) ?_
 refine doneZ (by kernel_rfl) ?_
 have G8:=(G7.put 9 (.slice A7 (l.length + 1) c7)).less
 have GE:=Lib.hid G8
 clear G8 G7 G6 G5 k0 k1 hr7 o7 o7' g7 p7 LN y6 h6 h5 HR
 generalize w7.setCell ⟨F,9,none⟩ (.slice A7 (l.length + 1) c7) = w8 at GE ⊢
 go_wp2_with fail
 go_end0
 exact ⟨rfl,HZ.out _ _ _ GE.out⟩
theorem rinfo_pa:(Tryz.prog.info? 63).map (fun i=>(i.zero,i.size,i.bytes)) = some (some (.agg #[.int .i64 0,.int .i64 0,.int .i64 0,.bool false]),4,32):=by kernel_rfl
abbrev c_pa (F_:Fm) (g:List Bs) (i_st:List Bs):Array Value:=#[.int .i64 (fnd 9 i_st (g.getD 0 [])).1,.int .i64 (fnd 9 i_st (g.getD 1 [])).1,.int .i64 (F_.dur (g.getD 2 [])).1,.bool (flg (g.getD 3 [])).1]
abbrev x_pa (F_:Fm) (g:List Bs) (i_st:List Bs):S20.Fp:=((fnd 9 i_st (g.getD 0 [])).1,(fnd 9 i_st (g.getD 1 [])).1,(F_.dur (g.getD 2 [])).1,(flg (g.getD 3 [])).1)
abbrev e_pa (F_:Fm) (g:List Bs) (i_st:List Bs):Int:=(fe1 (fe1 (fe1 (fe1 (fe1 0 (if (g.drop 0).length = 4 then 0 else 1)) (fnd 9 i_st (g.getD 0 [])).2) (fnd 9 i_st (g.getD 1 [])).2) (F_.dur (g.getD 2 [])).2) (flg (g.getD 3 [])).2)
theorem ad_pa (F_:Fm) {w0:World} {F:Nat} {vs:List Value} {ts:List Tng} {g:List Bs} {W:World} (H:Rec w0 F vs ts g W) (FO:Fo F_ w0) {v0:Value} {l:List S20.Fp} (tb:Tbl w0 vs ts 8 63 4 v0 l.length (fl S20.fe l)) {B_st:Nat} {i_st:List Bs} (X_st:Ix vs ts 0 B_st i_st) :
  Calls Tryz.prog 92 #[.pointer (some ⟨F,0,none⟩)] W fun r w'=>r = .returned (.tuple #[])∧∃ v' v,Gst w0 F 80 ((set2 vs v' (e_pa F_ g i_st)).set 10 v) (ts.set 8 (tRow w0.heap.size ⟨63,4,v,l.length + 1,fl S20.fe (l ++ [(x_pa F_ g i_st)])⟩)) w':=by
 suffices h:∀ Z:World→Prop,(∀ v' v w',Gst w0 F 80 ((set2 vs v' (e_pa F_ g i_st)).set 10 v) (ts.set 8 (tRow w0.heap.size ⟨63,4,v,l.length + 1,fl S20.fe (l ++ [(x_pa F_ g i_st)])⟩)) w'→Z w')→Calls Tryz.prog 92 #[.pointer (some ⟨F,0,none⟩)] W fun r w'=>r = .returned (.tuple #[])∧Z w' from h _ (fun v' v _ h=>⟨v',v,h⟩)
 intro Z hZ
 have HZ:=Lib.hid hZ
 clear hZ
 obtain ⟨vq,pq⟩:=H.prd
 have C0:=Lib.hid (expect_any (F:=F) (vs:=vs) (g:=g) (W0:=W) 4 0 0 H.len W (Nx.start pq))
 clear pq
 go_enter Tryz.func92,Tryz.ntmps92
 go_wp2_with fail
 refine C0.out.mono ?_
 rintro r w1 ⟨rfl,n1,-⟩
 have N1:=Lib.hid (n1.on (Below.refl _ _).drew)
 clear n1 C0
 go_wp2_with fail
 refine startT (S:=fun X=>X.cell? ⟨F,17,none⟩ = some (.map (some B_st))) _ 27 rfl (by kernel_rfl) (by kernel_rfl) (by kernel_rfl) (bitsL 27 0) (by kernel_rfl) (N1.out.cell (by decide) X_st.cell) (fun _=>?_)
 refine takesT (L:=[(0,7,pt F 0),(1,8,pt F 0),(2,9,pt F 0),(3,10,pt F 0),(4,11,pt F 0),(5,12,pt F 17),(6,13,.map (some B_st)),(8,15,pt F 0),(9,16,pt F 0),(10,17,pt F 0),(11,18,pt F 0),(12,19,pt F 0),(13,20,pt F 17),(14,21,.map (some B_st)),(16,23,pt F 0),(17,24,pt F 0),(18,25,pt F 0),(20,27,pt F 0),(21,28,pt F 0),(22,29,pt F 0)]) (.q (.q (.q (.q (.q (.q (.cons rfl rfl (.inl ⟨rfl,fun _ h=>by have h0:=h; dsimp only [pt]; go_simp; try with_reducible rfl⟩) (.q (.q (.q (.q (.q (.q (.cons rfl rfl (.inl ⟨rfl,fun _ h=>by have h0:=h; dsimp only [pt]; go_simp; try with_reducible rfl⟩) (.q (.q (.q (.q (.q (.q .nil)))))))))))))))))))) [0,1,2,3,4,5,6,8,9,10,11,12,13,14,16,17,18,20,21,22] rfl rfl (by kernel_rfl) (fun _ _ _ _ _ h=>h) (N1.out.cell (by decide) X_st.cell) ?_
 refine runsT (j:=25) (dj:=2) (v:=fun X=>.pointer (some ⟨X.heap.size,0,none⟩)) (m:=fun X=>X.alloc (.cells #[.int .i64 0,.int .i64 0,.int .i64 0,.bool false] 63 (0,0))) (L:=Lq W (.cells #[.int .i64 0,.int .i64 0,.int .i64 0,.bool false] 63 (0,0))) (G:=Nx F vs g W 0 (fe1 0 (if (g.drop 0).length = 4 then 0 else 1))) (I:=[7,15,19,23,24]) (.rd 14 (.int .i64 (fnd 9 i_st (g.getD 0 [])).1) rfl rfl (by decide) (fun _=>rfl) (fun _=>by kernel_rfl) (fun _ _=>by kernel_rfl) (ref_any B_st i_st (X_st.off H.st).1 (X_st.off H.st).2 0 _ (H.fld _)) (fun X h=>(h.cell (by decide) X_st.cell)) (.rd 22 (.int .i64 (fnd 9 i_st (g.getD 1 [])).1) rfl rfl (by decide) (fun _=>rfl) (fun _=>by kernel_rfl) (fun _ _=>by kernel_rfl) (ref_any B_st i_st (X_st.off H.st).1 (X_st.off H.st).2 1 _ (H.fld _)) (fun X h=>(h.cell (by decide) X_st.cell)) (.rd 26 (.int .i64 (F_.dur (g.getD 2 [])).1) rfl rfl (by decide) (fun _=>rfl) (fun _=>by kernel_rfl) (fun _ _=>by kernel_rfl) (duration_any F_ 2 _ (fun w h=>FO.dur _ (H.fld _) w (H.low h))) (fun X h=>(h.cell (by decide) X_st.cell)) (.rd 30 (.bool (flg (g.getD 3 [])).1) rfl rfl (by decide) (fun _=>rfl) (fun _=>by kernel_rfl) (fun _ _=>by kernel_rfl) (flag_any 3 _) (fun X h=>(h.cell (by decide) X_st.cell)) (.step 31 (.agg (c_pa F_ g i_st)) rfl rfl (by decide) (fun _=>rfl) (fun _=>by kernel_rfl) (fun _ _=>by kernel_rfl) (Nx.new _) (fun X h=>(h.cell (by decide) X_st.cell)) (.nil (Nx.new _) (fun X h=>(h.cell (by decide) X_st.cell)))))))) rfl rfl (fun _=>rfl) (fun _ _=>by kernel_rfl) rfl (by kernel_rfl) N1.out ?_
 rintro q w2 n2 ⟨b,rfl,hb0,hb1⟩
 obtain ⟨v',G2⟩:=H.up n2
 have G3:=H.st.boxed G2 hb0 hb1 (c_pa F_ g i_st)
 refine storeT (i:=26) _ rfl (by kernel_rfl) rfl rfl rfl (exec_store_row 63 (.tmp 2) (.tmp 31) (by kernel_rfl) b (c_pa F_ g i_st) (by kernel_rfl) (by kernel_rfl) _ _ hb1 (by kernel_rfl) (by kernel_rfl) (by kernel_rfl)) ((G3.cell ((set2_at (by decide)).trans X_st.cell)).1) ?_
 refine doneT (by kernel_rfl) ?_
 clear n2 hb0 hb1 G2 N1
 generalize w2.setRow b (c_pa F_ g i_st) = w3 at G3 ⊢
 obtain ⟨A,c,rfl⟩:=tb.slice H.st
 have HR:ts[8]? = some (tRow w0.heap.size ⟨63,4,.slice A l.length c,l.length,fl S20.fe l⟩):=tb.row
 obtain ⟨w5,h5⟩:∃ X,World.drew w3 = X:=⟨_,rfl⟩
 have G5:=G3.on (W':=w5) (by rw [← h5]; exact (Below.refl _ _).drew)
 go_wp2_with fail
 refine startZ (S:=fun X=>X.cell? ⟨F,10,none⟩ = some (.slice A l.length c)∧X.heap[b]? = some (.cells (c_pa F_ g i_st) 63 (0,0))) _ 13 12 rfl (by kernel_rfl) (by kernel_rfl) (by kernel_rfl) (bitsL 13 0) (by kernel_rfl) ?_
 rw [h5]
 refine takesZ (L:=[(0,32,pt F 0),(1,33,pt F 0),(2,34,pt F 0),(3,35,pt F 2),(4,36,pt F 10),(5,37,.slice A l.length c),(6,38,.agg (c_pa F_ g i_st))]) rfl (.q (.q (.q (.q (.q (.cons rfl rfl (.inl ⟨rfl,fun _ h=>by obtain ⟨h0,hb⟩:=h; dsimp only [pt]; go_simp; try with_reducible rfl⟩) (.cons rfl rfl (.inl ⟨rfl,fun _ h=>by obtain ⟨h0,hb⟩:=h; exact exec_load_row 63 (.tmp 2) (by kernel_rfl) b (by kernel_rfl) _ _ _ _ hb Tryz.underlying63 rfl (by kernel_rfl)⟩) .nil))))))) [0,1,2,3,4,5,6] rfl rfl (by kernel_rfl) (fun _ _ _ _ _ h=>h) ⟨(G5.cell ((set2_at (by decide)).trans tb.cell)).1,G5.box_last⟩ ?_
 obtain ⟨w6,h6⟩:∃ X,w5.alloc (.cells (c_pa F_ g i_st) 63 (0,0)) = X:=⟨_,rfl⟩
 have G6:=G5.on (W':=w6) (by rw [← h6]; exact (Below.refl _ _).alloc (Nat.le_refl _) _)
 have y6:=heap_alloc_new w5 (.cells (c_pa F_ g i_st) 63 (0,0))
 rw [h6] at y6
 refine makeZ (i:=7) (v:=.slice (some ⟨w5.heap.size,0,none⟩) 1 1) (w':=w6) 39 _ rfl (by kernel_rfl) rfl rfl rfl (by rw [← h6]; kernel_rfl) ⟨(G6.cell ((set2_at (by decide)).trans tb.cell)).1,G6.box_last⟩ rfl ?_
 obtain ⟨v7,w7,hr7,o7,g7,p7⟩:=run_appG (enc:=S20.fe) S20.fe_len (by decide) Tryz.underlying31 rinfo_pa rfl (by decide) w6 31 w0.heap.size (.slice A l.length c) l (x_pa F_ g i_st) (fun u hu=>by simp only [S20.fe,List.mem_cons,List.not_mem_nil,or_false] at hu; rcases hu with rfl | rfl | rfl | rfl <;> rfl) (G6.row (row_app HR)) _ _ y6 rfl G6.base.size (by have:=tb.few; omega)
 obtain ⟨A7,c7,e7,-⟩:=o7.lst
 have LN:(l ++ [((x_pa F_ g i_st):S20.Fp)]).length = l.length + 1:=by simp
 have o7':w7.ownsRow w0.heap.size 63 4 v7 (l.length + 1) (fl S20.fe (l ++ [(x_pa F_ g i_st)])):=by have:=o7; unfold OwnG at this; rwa [LN] at this
 rw [LN] at e7
 subst e7
 have G7:=G6.turn (t':=tRow w0.heap.size ⟨63,4,.slice A7 (l.length + 1) c7,l.length + 1,fl S20.fe (l ++ [(x_pa F_ g i_st)])⟩) (row_app HR) g7 (tRow.at o7') p7
 rw [List.set_append_left (h:=(List.getElem?_eq_some_iff.1 HR).1)] at G7
 refine makeZ (i:=8) (v:=.slice A7 (l.length + 1) c7) (w':=w7) 40 _ rfl (by kernel_rfl) rfl rfl rfl (exec_append (s:=.tmp 37) (x:=.tmp 39) (ST:=31) (by kernel_rfl) (by kernel_rfl) (by kernel_rfl) hr7) ⟨(G7.cell ((set2_at (by decide)).trans tb.cell)).1,G7.box_last⟩ rfl ?_
 refine onesZ (L:=[(9,41,pt F 0),(10,42,pt F 2),(11,43,pt F 10)]) (.q (.q (.q .nil))) [9,10,11] rfl rfl (by kernel_rfl) ⟨(G7.cell ((set2_at (by decide)).trans tb.cell)).1,G7.box_last⟩ ?_
 obtain ⟨k0,k1⟩:=G7.cell (i:=10) ((set2_at (by decide)).trans tb.cell)
 refine storeZ (w':=w7.setCell ⟨F,10,none⟩ (.slice A7 (l.length + 1) c7)) _ rfl (by kernel_rfl) rfl rfl rfl (by go_simp; try with_reducible rfl) ?_
 refine doneZ (by kernel_rfl) ?_
 have G8:=(G7.put 10 (.slice A7 (l.length + 1) c7)).less
 have GE:=Lib.hid G8
 clear G8 G7 G6 G5 k0 k1 hr7 o7 o7' g7 p7 LN y6 h6 h5 HR
 generalize w7.setCell ⟨F,10,none⟩ (.slice A7 (l.length + 1) c7) = w8 at GE ⊢
 go_wp2_with fail
 go_end0
 exact ⟨rfl,HZ.out _ _ _ GE.out⟩
theorem rinfo_pr:(Tryz.prog.info? 65).map (fun i=>(i.zero,i.size,i.bytes)) = some (some (.agg #[.string ⟨#[]⟩,.int .i64 0,.int .i64 0,.int .i64 0,.int .i64 0,.int .i64 0]),6,56):=by kernel_rfl
abbrev c_pr (F_:Fm) (g:List Bs):Array Value:=#[.string (str (g.getD 0 [])),.int .i64 (F_.prc (g.getD 1 [])).1,.int .i64 (F_.num (g.getD 2 [])).1,.int .i64 (F_.num (g.getD 3 [])).1,.int .i64 (F_.dur (g.getD 4 [])).1,.int .i64 (F_.mds (g.getD 5 [])).1]
abbrev x_pr (F_:Fm) (g:List Bs):S21.Pd:=((g.getD 0 []),(F_.prc (g.getD 1 [])).1,(F_.num (g.getD 2 [])).1,(F_.num (g.getD 3 [])).1,(F_.dur (g.getD 4 [])).1,(F_.mds (g.getD 5 [])).1)
abbrev e_pr (F_:Fm) (g:List Bs):Int:=(fe1 (fe1 (fe1 (fe1 (fe1 (fe1 0 (if (g.drop 0).length = 6 then 0 else 1)) (F_.prc (g.getD 1 [])).2) (F_.num (g.getD 2 [])).2) (F_.num (g.getD 3 [])).2) (F_.dur (g.getD 4 [])).2) (F_.mds (g.getD 5 [])).2)
theorem ad_pr (F_:Fm) {w0:World} {F:Nat} {vs:List Value} {ts:List Tng} {g:List Bs} {W:World} (H:Rec w0 F vs ts g W) (FO:Fo F_ w0) {v0:Value} {l:List S21.Pd} (tb:Tbl w0 vs ts 9 65 6 v0 l.length (fl S21.pdE l)) :
  Calls Tryz.prog 93 #[.pointer (some ⟨F,0,none⟩)] W fun r w'=>r = .returned (.tuple #[])∧∃ v' v,Gst w0 F 80 ((set2 vs v' (e_pr F_ g)).set 11 v) (ts.set 9 (tRow w0.heap.size ⟨65,6,v,l.length + 1,fl S21.pdE (l ++ [(x_pr F_ g)])⟩)) w':=by
 suffices h:∀ Z:World→Prop,(∀ v' v w',Gst w0 F 80 ((set2 vs v' (e_pr F_ g)).set 11 v) (ts.set 9 (tRow w0.heap.size ⟨65,6,v,l.length + 1,fl S21.pdE (l ++ [(x_pr F_ g)])⟩)) w'→Z w')→Calls Tryz.prog 93 #[.pointer (some ⟨F,0,none⟩)] W fun r w'=>r = .returned (.tuple #[])∧Z w' from h _ (fun v' v _ h=>⟨v',v,h⟩)
 intro Z hZ
 have HZ:=Lib.hid hZ
 clear hZ
 obtain ⟨vq,pq⟩:=H.prd
 have C0:=Lib.hid (expect_any (F:=F) (vs:=vs) (g:=g) (W0:=W) 6 0 0 H.len W (Nx.start pq))
 clear pq
 go_enter Tryz.func93,Tryz.ntmps93
 go_wp2_with fail
 refine C0.out.mono ?_
 rintro r w1 ⟨rfl,n1,-⟩
 have N1:=Lib.hid (n1.on (Below.refl _ _).drew)
 clear n1 C0
 go_wp2_with fail
 refine startT (S:=fun X=>True) _ 27 rfl (by kernel_rfl) (by kernel_rfl) (by kernel_rfl) (bitsL 27 0) (by kernel_rfl) trivial (fun _=>?_)
 refine takesT (L:=[(0,7,pt F 0),(1,8,pt F 0),(2,9,pt F 0),(4,11,pt F 0),(5,12,pt F 0),(6,13,pt F 0),(8,15,pt F 0),(9,16,pt F 0),(10,17,pt F 0),(12,19,pt F 0),(13,20,pt F 0),(14,21,pt F 0),(16,23,pt F 0),(17,24,pt F 0),(18,25,pt F 0),(20,27,pt F 0),(21,28,pt F 0),(22,29,pt F 0)]) (.q (.q (.q (.q (.q (.q (.q (.q (.q (.q (.q (.q (.q (.q (.q (.q (.q (.q .nil)))))))))))))))))) [0,1,2,4,5,6,8,9,10,12,13,14,16,17,18,20,21,22] rfl rfl (by kernel_rfl) (fun _ _ _ _ _ h=>h) trivial ?_
 refine runsT (j:=25) (dj:=2) (v:=fun X=>.pointer (some ⟨X.heap.size,0,none⟩)) (m:=fun X=>X.alloc (.cells #[.string ⟨#[]⟩,.int .i64 0,.int .i64 0,.int .i64 0,.int .i64 0,.int .i64 0] 65 (0,0))) (L:=Lq W (.cells #[.string ⟨#[]⟩,.int .i64 0,.int .i64 0,.int .i64 0,.int .i64 0,.int .i64 0] 65 (0,0))) (G:=Nx F vs g W 0 (fe1 0 (if (g.drop 0).length = 6 then 0 else 1))) (I:=[3,7,11,15,19,23,24]) (.rd 10 (.string (str (g.getD 0 []))) rfl rfl (by decide) (fun _=>rfl) (fun _=>by kernel_rfl) (fun _ _=>by kernel_rfl) (text_any 0 _) (fun X h=>trivial) (.rd 14 (.int .i64 (F_.prc (g.getD 1 [])).1) rfl rfl (by decide) (fun _=>rfl) (fun _=>by kernel_rfl) (fun _ _=>by kernel_rfl) (price_any F_ 1 _ (fun w h=>FO.prc _ (H.fld _) w (H.low h))) (fun X h=>trivial) (.rd 18 (.int .i64 (F_.num (g.getD 2 [])).1) rfl rfl (by decide) (fun _=>rfl) (fun _=>by kernel_rfl) (fun _ _=>by kernel_rfl) (number_any F_ 2 _ (fun w h=>FO.num _ (H.fld _) w (H.low h))) (fun X h=>trivial) (.rd 22 (.int .i64 (F_.num (g.getD 3 [])).1) rfl rfl (by decide) (fun _=>rfl) (fun _=>by kernel_rfl) (fun _ _=>by kernel_rfl) (number_any F_ 3 _ (fun w h=>FO.num _ (H.fld _) w (H.low h))) (fun X h=>trivial) (.rd 26 (.int .i64 (F_.dur (g.getD 4 [])).1) rfl rfl (by decide) (fun _=>rfl) (fun _=>by kernel_rfl) (fun _ _=>by kernel_rfl) (duration_any F_ 4 _ (fun w h=>FO.dur _ (H.fld _) w (H.low h))) (fun X h=>trivial) (.rd 30 (.int .i64 (F_.mds (g.getD 5 [])).1) rfl rfl (by decide) (fun _=>rfl) (fun _=>by kernel_rfl) (fun _ _=>by kernel_rfl) (modes_any F_ 5 _ (fun w h=>FO.mds _ (H.fld _) w (H.low h))) (fun X h=>trivial) (.step 31 (.agg (c_pr F_ g)) rfl rfl (by decide) (fun _=>rfl) (fun _=>by kernel_rfl) (fun _ _=>by kernel_rfl) (Nx.new _) (fun X h=>trivial) (.nil (Nx.new _) (fun X h=>trivial))))))))) rfl rfl (fun _=>rfl) (fun _ _=>by kernel_rfl) rfl (by kernel_rfl) N1.out ?_
 rintro q w2 n2 ⟨b,rfl,hb0,hb1⟩
 obtain ⟨v',G2⟩:=H.up n2
 have G3:=H.st.boxed G2 hb0 hb1 (c_pr F_ g)
 refine storeT (i:=26) _ rfl (by kernel_rfl) rfl rfl rfl (exec_store_row 65 (.tmp 2) (.tmp 31) (by kernel_rfl) b (c_pr F_ g) (by kernel_rfl) (by kernel_rfl) _ _ hb1 (by kernel_rfl) (by kernel_rfl) (by kernel_rfl)) trivial ?_
 refine doneT (by kernel_rfl) ?_
 clear n2 hb0 hb1 G2 N1
 generalize w2.setRow b (c_pr F_ g) = w3 at G3 ⊢
 obtain ⟨A,c,rfl⟩:=tb.slice H.st
 have HR:ts[9]? = some (tRow w0.heap.size ⟨65,6,.slice A l.length c,l.length,fl S21.pdE l⟩):=tb.row
 obtain ⟨w5,h5⟩:∃ X,World.drew w3 = X:=⟨_,rfl⟩
 have G5:=G3.on (W':=w5) (by rw [← h5]; exact (Below.refl _ _).drew)
 go_wp2_with fail
 refine startZ (S:=fun X=>X.cell? ⟨F,11,none⟩ = some (.slice A l.length c)∧X.heap[b]? = some (.cells (c_pr F_ g) 65 (0,0))) _ 15 14 rfl (by kernel_rfl) (by kernel_rfl) (by kernel_rfl) (bitsL 15 0) (by kernel_rfl) ?_
 rw [h5]
 refine takesZ (L:=[(0,32,pt F 0),(1,33,pt F 0),(2,34,pt F 0),(3,35,pt F 2),(4,36,pt F 11),(5,37,pt F 11),(6,38,.slice A l.length c),(7,39,.agg (c_pr F_ g))]) rfl (.q (.q (.q (.q (.q (.q (.cons rfl rfl (.inl ⟨rfl,fun _ h=>by obtain ⟨h0,hb⟩:=h; dsimp only [pt]; go_simp; try with_reducible rfl⟩) (.cons rfl rfl (.inl ⟨rfl,fun _ h=>by obtain ⟨h0,hb⟩:=h; exact exec_load_row 65 (.tmp 2) (by kernel_rfl) b (by kernel_rfl) _ _ _ _ hb Tryz.underlying65 rfl (by kernel_rfl)⟩) .nil)))))))) [0,1,2,3,4,5,6,7] rfl rfl (by kernel_rfl) (fun _ _ _ _ _ h=>h) ⟨(G5.cell ((set2_at (by decide)).trans tb.cell)).1,G5.box_last⟩ ?_
 obtain ⟨w6,h6⟩:∃ X,w5.alloc (.cells (c_pr F_ g) 65 (0,0)) = X:=⟨_,rfl⟩
 have G6:=G5.on (W':=w6) (by rw [← h6]; exact (Below.refl _ _).alloc (Nat.le_refl _) _)
 have y6:=heap_alloc_new w5 (.cells (c_pr F_ g) 65 (0,0))
 rw [h6] at y6
 refine makeZ (i:=8) (v:=.slice (some ⟨w5.heap.size,0,none⟩) 1 1) (w':=w6) 40 _ rfl (by kernel_rfl) rfl rfl rfl (by rw [← h6]; kernel_rfl) ⟨(G6.cell ((set2_at (by decide)).trans tb.cell)).1,G6.box_last⟩ rfl ?_
 obtain ⟨v7,w7,hr7,o7,g7,p7⟩:=run_appG (enc:=S21.pdE) S21.pdE_len (by decide) Tryz.underlying32 rinfo_pr rfl (by decide) w6 32 w0.heap.size (.slice A l.length c) l (x_pr F_ g) (fun u hu=>by simp only [S21.pdE,List.mem_cons,List.not_mem_nil,or_false] at hu; rcases hu with rfl | rfl | rfl | rfl | rfl | rfl <;> rfl) (G6.row (row_app HR)) _ _ y6 rfl G6.base.size (by have:=tb.few; omega)
 obtain ⟨A7,c7,e7,-⟩:=o7.lst
 have LN:(l ++ [((x_pr F_ g):S21.Pd)]).length = l.length + 1:=by simp
 have o7':w7.ownsRow w0.heap.size 65 6 v7 (l.length + 1) (fl S21.pdE (l ++ [(x_pr F_ g)])):=by have:=o7; unfold OwnG at this; rwa [LN] at this
 rw [LN] at e7
 subst e7
 have G7:=G6.turn (t':=tRow w0.heap.size ⟨65,6,.slice A7 (l.length + 1) c7,l.length + 1,fl S21.pdE (l ++ [(x_pr F_ g)])⟩) (row_app HR) g7 (tRow.at o7') p7
 rw [List.set_append_left (h:=(List.getElem?_eq_some_iff.1 HR).1)] at G7
 refine makeZ (i:=9) (v:=.slice A7 (l.length + 1) c7) (w':=w7) 41 _ rfl (by kernel_rfl) rfl rfl rfl (exec_append (s:=.tmp 38) (x:=.tmp 40) (ST:=32) (by kernel_rfl) (by kernel_rfl) (by kernel_rfl) hr7) ⟨(G7.cell ((set2_at (by decide)).trans tb.cell)).1,G7.box_last⟩ rfl ?_
 refine onesZ (L:=[(10,42,pt F 0),(11,43,pt F 2),(12,44,pt F 11),(13,45,pt F 11)]) (.q (.q (.q (.q .nil)))) [10,11,12,13] rfl rfl (by kernel_rfl) ⟨(G7.cell ((set2_at (by decide)).trans tb.cell)).1,G7.box_last⟩ ?_
 obtain ⟨k0,k1⟩:=G7.cell (i:=11) ((set2_at (by decide)).trans tb.cell)
 refine storeZ (w':=w7.setCell ⟨F,11,none⟩ (.slice A7 (l.length + 1) c7)) _ rfl (by kernel_rfl) rfl rfl rfl (by go_simp; try with_reducible rfl) ?_
 refine doneZ (by kernel_rfl) ?_
 have G8:=(G7.put 11 (.slice A7 (l.length + 1) c7)).less
 have GE:=Lib.hid G8
 clear G8 G7 G6 G5 k0 k1 hr7 o7 o7' g7 p7 LN y6 h6 h5 HR
 generalize w7.setCell ⟨F,11,none⟩ (.slice A7 (l.length + 1) c7) = w8 at GE ⊢
 go_wp2_with fail
 go_end0
 exact ⟨rfl,HZ.out _ _ _ GE.out⟩
end Go.Proofs.YtpifdbphmnifdaaGreatDoor
