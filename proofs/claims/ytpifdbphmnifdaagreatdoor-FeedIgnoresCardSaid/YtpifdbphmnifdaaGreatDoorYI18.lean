/-
  Facts of the proof. Condition: each theorem's own.
-/
import Derived.Test.YtpifdbphmnifdaaGreatDoorYI16
set_option maxRecDepth 100000
set_option maxHeartbeats 8000000
open Go.Proofs.Tryz
namespace Go.Proofs.YtpifdbphmnifdaaGreatDoor
section
open Go.RowKit
def tLin (B n:Nat) (V:List UInt8→Value):Tng:=tBlk B fun W=>MapL W B n V
abbrev e_fa (F_:Fm) (g:List Bs) (m:Nat):Int:=fe1 (fe1 (fe1 (fe1 (fe1 0 (if (g.drop 0).length=3 then 0 else 1)) (if m=0 then 0 else 6)) (F_.prc (g.getD 0 [])).2) (F_.dur (g.getD 1 [])).2) (F_.prc (g.getD 2 [])).2
theorem Qaq {P:Program} {a:Act} {o:Oper} {w:World} (m:Nat) {x y:Operand} (ho:o.op=.binOp .eql 3 x y 3) (hx:a.eval x=.int .i64 (m:Nat)) (hy:a.eval y=.int .i64 0) (ha:prog=P):(execOp a.eval o).run P w=.ok (.value (.bool (decide (m=0)))) w:=by
 subst ha;have e:((m:Int)==0)=decide (m=0):=by
  by_cases h:m=0
  ·subst h;rfl
  ·rw [decide_eq_false h];exact Jac (by omega)
 unfold execOp;simp only [ho,hx,hy];go_simp
 try rw [e]
theorem Qar (F_:Fm) {w0:World} {F:Nat} {vs:List Value} {ts:List Tng} {g:List Bs} {W:World} (H:Rec w0 F vs ts g W) (FO:Fo F_ w0) {B n m c:Nat} {A:Option Addr} {V:List UInt8→Value} (hm:vs[15]?=some (.map (some B))) (hM:ts[10]?=some (tLin B n V)) (hV:V wFa=.slice A m c) {x y z:Value} (h12:vs[12]?=some x) (h13:vs[13]?=some y) (h14:vs[14]?=some z) :
  Calls prog 94 #[.pointer (some ⟨F,0,none⟩)] W fun r w'=>r=.returned (.tuple #[])∧∃v',Gst w0 F 80 ((((set2 vs v' (e_fa F_ g m)).set 12 (.int .i64 (F_.prc (g.getD 0 [])).1)).set 13 (.int .i64 (F_.dur (g.getD 1 [])).1)).set 14 (.int .i64 (F_.prc (g.getD 2 [])).1)) ts w':=by
 suffices h:∀Z:World→Prop,(∀v' w',Gst w0 F 80 ((((set2 vs v' (e_fa F_ g m)).set 12 (.int .i64 (F_.prc (g.getD 0 [])).1)).set 13 (.int .i64 (F_.dur (g.getD 1 [])).1)).set 14 (.int .i64 (F_.prc (g.getD 2 [])).1)) ts w'→Z w')→Calls prog 94 #[.pointer (some ⟨F,0,none⟩)] W fun r w'=>r=.returned (.tuple #[])∧Z w' from h _ (fun v' _ h=>⟨v',h⟩)
 intro Z hZ;have HZ:=Lib.hid hZ;clear hZ;obtain⟨vq,pq⟩:=H.prd;have C0:=Lib.hid (Jbg (F:=F) (vs:=vs) (g:=g) (W0:=W) 3 0 0 H.len W (Nx.start pq));clear pq;have LK:∀(X:World) (k:Nat) (e:Int),Nx F vs g W k e X→(Instr.lookup 76 (.map (some B)) (.string ⟨#[102,97,114,101,115]⟩) false).run prog X=.ok (.slice A m c) X:=fun X k e hX=>by
  have hb:=H.st.blk hM;have:=(hb.1.kept hX.1 (by simpa using hb.2.2.2)).look (str wFa) wFa rfl (by decide);rw [hV] at this;exact this
 go_enter func94,ntmps94
 go_wp2_with fail
 refine C0.out.mono ?_;rintro r w1 ⟨rfl,n1,-⟩;have N1:=Lib.hid (n1.on (Below.refl _ _).drew);clear n1 C0;go_wp2_with fail
 refine Ja6 (S:=fun X=>X.cell? ⟨F,15,none⟩=some (.map (some B))∧(Instr.lookup 76 (.map (some B)) (.string ⟨#[102,97,114,101,115]⟩) false).run prog X=.ok (.slice A m c) X) _ 11 rfl (by kernel_rfl) (by kernel_rfl) (by kernel_rfl) (Jba 11 0) (by kernel_rfl) ⟨N1.out.cell (by decide) hm,LK _ _ _ N1.out⟩ (fun _=>?_);refine Ja3 (L:=[(0,7,pt F 0),(1,8,pt F 0),(2,9,pt F 0),(3,10,pt F 0),(4,11,pt F 0),(5,12,pt F 15),(6,13,.map (some B)),(7,14,.slice A m c),(8,15,.int .i64 (m:Nat)),(9,16,.bool (decide (m=0)))]) (.p rfl rfl (by kernel_rfl) (fun _=>by kernel_rfl) (.p rfl rfl (by kernel_rfl) (fun _=>by kernel_rfl) (.p rfl rfl (by kernel_rfl) (fun _=>by kernel_rfl) (.p rfl rfl (by kernel_rfl) (fun _=>by kernel_rfl) (.p rfl rfl (by kernel_rfl) (fun _=>by kernel_rfl) (.p rfl rfl (by kernel_rfl) (fun _=>by kernel_rfl) (.cons rfl rfl (.inl ⟨by kernel_rfl,fun _ h=>by have h0:=h.1;dsimp only [pt];go_simp;try with_reducible rfl⟩) (.cons rfl rfl (.inl ⟨by kernel_rfl,fun _ h=>by obtain⟨h0,h1⟩:=h;dsimp only [pt];go_simp;try with_reducible rfl⟩) (.cons rfl rfl (.inl ⟨by kernel_rfl,fun _ _=>by kernel_rfl⟩) (.cons rfl rfl (.inl ⟨by kernel_rfl,fun _ _=>Qaq m (x:=.tmp 15) (y:=.const (.int .i64 0)) (by kernel_rfl) (by kernel_rfl) (by kernel_rfl) rfl⟩) .nil)))))))))) [0,1,2,3,4,5,6,7,8,9] rfl rfl (by kernel_rfl) (fun _ _ _ _ _ h=>h) ⟨N1.out.cell (by decide) hm,LK _ _ _ N1.out⟩ ?_;have E:(if decide (m=0)=true then fe1 0 (if (g.drop 0).length=3 then 0 else 1) else fe1 (fe1 0 (if (g.drop 0).length=3 then 0 else 1)) 6)=fe1 (fe1 0 (if (g.drop 0).length=3 then 0 else 1)) (if m=0 then 0 else 6):=by
  by_cases h:m=0
  ·rw [if_pos (decide_eq_true h),if_pos h,Jcf]
  ·rw [if_neg (by simpa using h),if_neg h]
 refine Jbr (i:=10) 17 _ rfl (by kernel_rfl) rfl rfl rfl (by kernel_rfl) ((Jc4 (decide (m=0)) 6 0 _).ret N1.out) ?_;rintro u w2 ⟨rfl,n2⟩;rw [E] at n2;refine⟨⟨n2.cell (by decide) hm,LK _ _ _ n2⟩,?_⟩;refine Jb2 (by kernel_rfl) ?_;have N2:=Lib.hid (n2.on (Below.refl _ _).drew);clear n2 N1 E;go_wp2_with fail
 refine Ja6 (S:=fun _=>True) _ 24 rfl (by kernel_rfl) (by kernel_rfl) (by kernel_rfl) (Jba 24 0) (by kernel_rfl) trivial (fun _=>?_);refine Ja3 (L:=[(0,22,pt F 11),(1,23,pt F 11),(2,24,pt F 11),(3,25,pt F 0),(4,26,pt F 0),(5,27,pt F 0),(7,29,pt F 0),(8,30,pt F 0),(9,31,pt F 0),(11,33,pt F 0),(12,34,pt F 0),(13,35,pt F 0)]) (.p rfl rfl (by kernel_rfl) (fun _=>by kernel_rfl) (.p rfl rfl (by kernel_rfl) (fun _=>by kernel_rfl) (.p rfl rfl (by kernel_rfl) (fun _=>by kernel_rfl) (.p rfl rfl (by kernel_rfl) (fun _=>by kernel_rfl) (.p rfl rfl (by kernel_rfl) (fun _=>by kernel_rfl) (.p rfl rfl (by kernel_rfl) (fun _=>by kernel_rfl) (.p rfl rfl (by kernel_rfl) (fun _=>by kernel_rfl) (.p rfl rfl (by kernel_rfl) (fun _=>by kernel_rfl) (.p rfl rfl (by kernel_rfl) (fun _=>by kernel_rfl) (.p rfl rfl (by kernel_rfl) (fun _=>by kernel_rfl) (.p rfl rfl (by kernel_rfl) (fun _=>by kernel_rfl) (.p rfl rfl (by kernel_rfl) (fun _=>by kernel_rfl) .nil)))))))))))) [0,1,2,3,4,5,7,8,9,11,12,13] rfl rfl (by kernel_rfl) (fun _ _ _ _ _ h=>h) trivial ?_;refine Jbr (i:=6) 28 _ rfl (by kernel_rfl) rfl rfl rfl (by kernel_rfl) ((Jht F_ 0 _ (fun w h=>FO.prc _ (H.fld _) w (H.low h))).ret N2.out) ?_;rintro u w3 ⟨rfl,n3⟩;refine⟨trivial,?_⟩;have N3:=Lib.hid n3;clear n3;refine Jbr (i:=10) 32 _ rfl (by kernel_rfl) rfl rfl rfl (by kernel_rfl) ((Jdc F_ 1 _ (fun w h=>FO.dur _ (H.fld _) w (H.low h))).ret N3.out) ?_;rintro u w4 ⟨rfl,n4⟩;refine⟨trivial,?_⟩;have N4:=Lib.hid n4;clear n4;refine Jbr (i:=14) 36 _ rfl (by kernel_rfl) rfl rfl rfl (by kernel_rfl) ((Jht F_ 2 _ (fun w h=>FO.prc _ (H.fld _) w (H.low h))).ret N4.out) ?_;rintro u w5 ⟨rfl,n5⟩;refine⟨trivial,?_⟩;have N5:=Lib.hid n5;clear n5;obtain⟨v',G⟩:=H.up N5.out;refine Jdh (i:=15) (v:=pt F 11) (w':=w5) 37 _ rfl (by kernel_rfl) rfl rfl rfl (by kernel_rfl) trivial rfl ?_;refine Jdh (i:=16) (v:=pt F 12) (w':=w5) 38 _ rfl (by kernel_rfl) rfl rfl rfl (by kernel_rfl) trivial rfl ?_;obtain⟨k0,k1⟩:=G.cell (i:=12) ((Jab (by decide)).trans h12);refine Jco (i:=17) (w':=w5.setCell ⟨F,12,none⟩ (.int .i64 (F_.prc (g.getD 0 [])).1)) _ rfl (by kernel_rfl) rfl rfl rfl (by dsimp only [pt];go_simp;try with_reducible rfl) trivial ?_;replace G:=G.put 12 (.int .i64 (F_.prc (g.getD 0 [])).1)
 clear k0 k1;generalize w5.setCell ⟨F,12,none⟩ (.int .i64 (F_.prc (g.getD 0 [])).1)=w6 at G ⊢;refine Jdh (i:=18) (v:=pt F 11) (w':=w6) 39 _ rfl (by kernel_rfl) rfl rfl rfl (by kernel_rfl) trivial rfl ?_;refine Jdh (i:=19) (v:=pt F 13) (w':=w6) 40 _ rfl (by kernel_rfl) rfl rfl rfl (by kernel_rfl) trivial rfl ?_;obtain⟨k0,k1⟩:=G.cell (i:=13) ((List.getElem?_set_ne (by decide)).trans ((Jab (by decide)).trans h13));refine Jco (i:=20) (w':=w6.setCell ⟨F,13,none⟩ (.int .i64 (F_.dur (g.getD 1 [])).1)) _ rfl (by kernel_rfl) rfl rfl rfl (by dsimp only [pt];go_simp;try with_reducible rfl) trivial ?_;replace G:=G.put 13 (.int .i64 (F_.dur (g.getD 1 [])).1)
 clear k0 k1;generalize w6.setCell ⟨F,13,none⟩ (.int .i64 (F_.dur (g.getD 1 [])).1)=w7 at G ⊢;refine Jdh (i:=21) (v:=pt F 11) (w':=w7) 41 _ rfl (by kernel_rfl) rfl rfl rfl (by kernel_rfl) trivial rfl ?_;refine Jdh (i:=22) (v:=pt F 14) (w':=w7) 42 _ rfl (by kernel_rfl) rfl rfl rfl (by kernel_rfl) trivial rfl ?_;obtain⟨k0,k1⟩:=G.cell (i:=14) ((List.getElem?_set_ne (by decide)).trans ((List.getElem?_set_ne (by decide)).trans ((Jab (by decide)).trans h14)));refine Jco (i:=23) (w':=w7.setCell ⟨F,14,none⟩ (.int .i64 (F_.prc (g.getD 2 [])).1)) _ rfl (by kernel_rfl) rfl rfl rfl (by dsimp only [pt];go_simp;try with_reducible rfl) trivial ?_;replace G:=G.put 14 (.int .i64 (F_.prc (g.getD 2 [])).1)
 clear k0 k1;generalize w7.setCell ⟨F,14,none⟩ (.int .i64 (F_.prc (g.getD 2 [])).1)=w8 at G ⊢;refine Jb2 (by kernel_rfl) ?_;have GE:=Lib.hid G;clear G N2 N3 N4 N5;go_wp2_with fail
 go_end0;exact⟨rfl,HZ.out _ _ GE.out⟩
theorem Jw8 {P:Program} {a:Act} {o:Oper} {w:World} (l m:Bs) {x y:Operand} (ho:o.op=.binOp .eql 9 x y 9) (hx:a.eval x=.string (str l)) (hy:a.eval y=.string (str m)) (ha:prog=P):(execOp a.eval o).run P w=.ok (.value (.bool (decide (l=m)))) w:=by
 subst ha;have e:((str l).toList==(str m).toList)=decide (l=m):=by
  by_cases h:l=m
  ·rw [decide_eq_true h];exact Jc9 (by rw [h])
  ·rw [decide_eq_false h];exact Jc8 (fun q=>h (Jj8 q))
 unfold execOp;simp only [ho,hx,hy];go_simp
 first | exact e | (by_cases h:l=m <;> simp [h])
abbrev c_cc (F_:Fm) (g i_st:List Bs):Array Value:=#[.int .i64 (fnd 9 i_st (g.getD 0 [])).1,.int .i64 (F_.tim (g.getD 1 [])).1,.int .i64 (F_.tim (g.getD 2 [])).1,.bool (decide ((prm (g.getD 3 [])).1=1∨(prm (g.getD 3 [])).1=3)),.bool (decide (2≤(prm (g.getD 3 [])).1))]
abbrev x_cc (F_:Fm) (g i_st:List Bs):Cl:=((fnd 9 i_st (g.getD 0 [])).1,(F_.tim (g.getD 1 [])).1,(F_.tim (g.getD 2 [])).1,decide ((prm (g.getD 3 [])).1=1∨(prm (g.getD 3 [])).1=3),decide (2≤(prm (g.getD 3 [])).1))
abbrev e_cc (F_:Fm) (g i_st:List Bs) (q:Bool):Int:=fe1 (fe1 (fe1 (fe1 (fe1 (fe1 0 (if (g.drop 0).length=4 then 0 else 1)) (if q then 0 else 8)) (fnd 9 i_st (g.getD 0 [])).2) (F_.tim (g.getD 1 [])).2) (F_.tim (g.getD 2 [])).2) (prm (g.getD 3 [])).2
theorem Jsr (l:List Tp) (x:Tp):(fl te (l++[x]))[l.length*5+4]?=some x.2.2.2.2.1:=by
 rw [Jow,Jox,List.getElem?_append_right (by rw [Joy Jes];omega),Joy Jes];rw [show l.length*5+4 - l.length*5=4 by omega];rfl
theorem J7s (l:List Tp) (x x':Tp) (u:Value) (h:(te x).set 4 u=te x'):(fl te (l++[x])).set (l.length*5+4) u=fl te (l++[x']):=by
 rw [Jow,Jow,Jox,Jox,List.set_append_right (h:=by rw [Joy Jes];omega),Joy Jes,←h];congr 2
 omega
theorem Jmh {e x:Int} (h:e≠0):fe1 e x≠0:=by rw [Jhs h];exact h
theorem e_no (y a b c d:Int):fe1 (fe1 (fe1 (fe1 (fe1 y 8) a) b) c) d≠0:=by
 have h:fe1 y 8≠0:=by
  by_cases q:y=0
  ·rw [q];decide
  ·exact Jmh q
 exact Jmh (Jmh (Jmh (Jmh h)))
theorem J12:(prog.info? 58).map (fun i=>(i.zero,i.size,i.bytes))=some (some (.agg #[.int .i64 0,.int .i64 0,.int .i64 0,.bool false,.bool false]),5,32):=by kernel_rfl
def putV (v:Value) (c:Cl) (x:Tp):Tp:=(x.1,x.2.1,x.2.2.1,x.2.2.2.1,v,x.2.2.2.2.2++[c])
theorem Qas (F_:Fm) {w0:World} {F:Nat} {vs:List Value} {ts:List Tng} {g:List Bs} {W:World} (H:Rec w0 F vs ts g W) (FO:Fo F_ w0) {lw:Bs} (hlast:vs[16]?=some (.string (str lw))) {B_st:Nat} {i_st:List Bs} (X_st:Ix vs ts 0 B_st i_st) {v0:Value} {l:List Tp} (tb:Tbl w0 vs ts 4 56 5 v0 l.length (fl te l))
  (hl:decide (lw=wTr) || decide (lw=wCc)→∃l0 x,l=l0++[x]∧ts[28+l0.length]?=some (tRow w0.heap.size ⟨58,5,x.2.2.2.2.1,x.2.2.2.2.2.length,fl cc x.2.2.2.2.2⟩)∧x.2.2.2.2.2.length≤1000000) :
  Calls prog 88 #[.pointer (some ⟨F,0,none⟩)] W fun r w'=>r=.returned (.tuple #[])∧((e_cc F_ g i_st (decide (lw=wTr) || decide (lw=wCc))≠0∧∃v',Gst w0 F 80 (set2 vs v' (e_cc F_ g i_st (decide (lw=wTr) || decide (lw=wCc)))) ts w')∨(e_cc F_ g i_st (decide (lw=wTr) || decide (lw=wCc))=0∧∃v' v7 l0 x,l=l0++[x]∧Gst w0 F 80 (set2 vs v' 0) ((ts.set (28+l0.length) (tRow w0.heap.size ⟨58,5,v7,x.2.2.2.2.2.length+1,fl cc (x.2.2.2.2.2++[x_cc F_ g i_st])⟩)).set 4 (tRow w0.heap.size ⟨56,5,v0,l.length,fl te (l0++[putV v7 (x_cc F_ g i_st) x])⟩)) w')):=by
 obtain⟨ok,hok⟩:∃q,(decide (lw=wTr) || decide (lw=wCc))=q:=⟨_,rfl⟩;rw [hok] at hl ⊢;generalize hZ:(fun w':World=>(e_cc F_ g i_st ok≠0∧∃v',Gst w0 F 80 (set2 vs v' (e_cc F_ g i_st ok)) ts w')∨(e_cc F_ g i_st ok=0∧∃v' v7 l0 x,l=l0++[x]∧Gst w0 F 80 (set2 vs v' 0) ((ts.set (28+l0.length) (tRow w0.heap.size ⟨58,5,v7,x.2.2.2.2.2.length+1,fl cc (x.2.2.2.2.2++[x_cc F_ g i_st])⟩)).set 4 (tRow w0.heap.size ⟨56,5,v0,l.length,fl te (l0++[putV v7 (x_cc F_ g i_st) x])⟩)) w'))=Z;suffices h:Calls prog 88 #[.pointer (some ⟨F,0,none⟩)] W fun r w'=>r=.returned (.tuple #[])∧Z w' from by subst hZ;exact h
 have ZN:Hid (e_cc F_ g i_st ok≠0→∀v' w',Gst w0 F 80 (set2 vs v' (e_cc F_ g i_st ok)) ts w'→Z w'):=Lib.hid (fun h v' w' hG=>by subst hZ;exact .inl ⟨h,v',hG⟩);have ZY:Hid (e_cc F_ g i_st ok=0→∀v' v7 l0 x w',l=l0++[x]→Gst w0 F 80 (set2 vs v' 0) ((ts.set (28+l0.length) (tRow w0.heap.size ⟨58,5,v7,x.2.2.2.2.2.length+1,fl cc (x.2.2.2.2.2++[x_cc F_ g i_st])⟩)).set 4 (tRow w0.heap.size ⟨56,5,v0,l.length,fl te (l0++[putV v7 (x_cc F_ g i_st) x])⟩)) w'→Z w'):=Lib.hid (fun h v' v7 l0 x w' hl hG=>by subst hZ;exact .inr ⟨h,v',v7,l0,x,hl,hG⟩);clear hZ;obtain⟨vq,pq⟩:=H.prd;have C0:=Lib.hid (Jbg (F:=F) (vs:=vs) (g:=g) (W0:=W) 4 0 0 H.len W (Nx.start pq));clear pq;have E:Hid ((if ok=true then fe1 0 (if (g.drop 0).length=4 then 0 else 1) else fe1 (fe1 0 (if (g.drop 0).length=4 then 0 else 1)) 8)=fe1 (fe1 0 (if (g.drop 0).length=4 then 0 else 1)) (if ok then 0 else 8)):=Lib.hid (by
  cases ok with
  | true=>rw [if_pos rfl,if_pos rfl,Jcf]
  | false=>rfl)
 go_enter func88,ntmps88
 go_wp2_with fail
 refine C0.out.mono ?_;rintro r w1 ⟨rfl,n1,-⟩;have N1:=Lib.hid (n1.on (Below.refl _ _).drew);clear n1 C0;go_wp2_with fail
 refine Ja6 (S:=fun X=>X.cell? ⟨F,16,none⟩=some (.string (str lw))) _ 16 rfl (by kernel_rfl) (by kernel_rfl) (by kernel_rfl) (Jba 16 0) (by kernel_rfl) (N1.out.cell (by decide) hlast) (fun _=>?_);have key:∀{Q:Exit→Act→World→Prop} {ops:Array Oper} {T:List Sk} {l:List Bool} {a:Act} {oi:Oper} (l':List Bool) (_:l.set 15 true=l') (_:Jbb T l=[15]) (_:ops[15]?=some oi) (_:oi.dst=some 23) (_:Region.wanted oi (yielded ops a.tmps)=true) (_:(execOp a.eval oi).run prog w1.drew=.ok (.enter 95 #[.pointer (some ⟨F,0,none⟩),.bool ok,.int .i64 8]) w1.drew) (_:Jbb T l'=[]) (_:∀w2,Nx F vs g W 0 (fe1 (fe1 0 (if (g.drop 0).length=4 then 0 else 1)) (if ok then 0 else 8)) w2→Q .normal (a.put (some 23) (.tuple #[])) w2),wpT prog .any ops Q (fun X=>X.cell? ⟨F,16,none⟩=some (.string (str lw))) T 1 l a w1.drew:=fun l' hl hr hi hd wi hrun hdone hQ =>
  Jbr (i:=15) 23 l' hl hr hi hd wi hrun ((Jc4 ok 8 0 _).ret N1.out) (fun u w2 hu=>⟨hu.2.cell (by decide) hlast,Jb2 hdone (by rw [hu.1];exact hQ w2 (by rw [←E.out];exact hu.2))⟩)
 by_cases hw:lw=wTr
 have q1:decide (lw=wTr)=true:=decide_eq_true hw;have ko:ok=true:=by rw [←hok,q1];rfl
 refine Ja3 (L:=[(0,8,pt F 0),(1,9,pt F 0),(2,10,pt F 0),(3,11,pt F 0),(4,12,pt F 0),(5,13,pt F 16),(6,14,.string (str lw)),(7,15,.bool true),(8,16,.bool true),(9,17,undef),(10,18,undef),(11,19,undef),(12,20,undef),(13,21,undef),(14,22,.bool true)]) (.p rfl rfl (by kernel_rfl) (fun _=>by kernel_rfl) (.p rfl rfl (by kernel_rfl) (fun _=>by kernel_rfl) (.p rfl rfl (by kernel_rfl) (fun _=>by kernel_rfl) (.p rfl rfl (by kernel_rfl) (fun _=>by kernel_rfl) (.p rfl rfl (by kernel_rfl) (fun _=>by kernel_rfl) (.p rfl rfl (by kernel_rfl) (fun _=>by kernel_rfl) (.cons rfl rfl (.inl ⟨by kernel_rfl,fun _ h=>by have h0:=h;dsimp only [pt];go_simp;try with_reducible rfl⟩) (.cons rfl rfl (.inl ⟨by kernel_rfl,fun _ _=>(Jw8 (x:=.tmp 14) (y:=.const (.string ⟨#[116,114,105,112]⟩)) lw wTr (by kernel_rfl) (by kernel_rfl) (by kernel_rfl) rfl).trans (by rw [q1])⟩) (.p rfl rfl (by kernel_rfl) (fun _=>by kernel_rfl) (.cons rfl rfl (.inr ⟨by kernel_rfl,rfl⟩) (.cons rfl rfl (.inr ⟨by kernel_rfl,rfl⟩) (.cons rfl rfl (.inr ⟨by kernel_rfl,rfl⟩) (.cons rfl rfl (.inr ⟨by kernel_rfl,rfl⟩) (.cons rfl rfl (.inr ⟨by kernel_rfl,rfl⟩) (.cons rfl rfl (.inl ⟨by kernel_rfl,fun _ _=>by kernel_rfl⟩) .nil))))))))))))))) [0,1,2,3,4,5,6,7,8,9,10,11,12,13,14] rfl rfl (by kernel_rfl) (fun _ _ _ _ _ h=>h) (N1.out.cell (by decide) hlast) ?_;refine key _ rfl (by kernel_rfl) rfl rfl rfl (by rw [ko];kernel_rfl) (by kernel_rfl) ?_;rotate_left
 have q1:decide (lw=wTr)=false:=decide_eq_false hw;obtain⟨q2,hq2⟩:∃q,decide (lw=wCc)=q:=⟨_,rfl⟩;have ko:ok=q2:=by rw [←hok,q1,hq2];rfl
 refine Ja3 (L:=[(0,8,pt F 0),(1,9,pt F 0),(2,10,pt F 0),(3,11,pt F 0),(4,12,pt F 0),(5,13,pt F 16),(6,14,.string (str lw)),(7,15,.bool false),(8,16,.bool false),(9,17,pt F 0),(10,18,pt F 0),(11,19,pt F 16),(12,20,.string (str lw)),(13,21,.bool q2),(14,22,.bool q2)]) (.p rfl rfl (by kernel_rfl) (fun _=>by kernel_rfl) (.p rfl rfl (by kernel_rfl) (fun _=>by kernel_rfl) (.p rfl rfl (by kernel_rfl) (fun _=>by kernel_rfl) (.p rfl rfl (by kernel_rfl) (fun _=>by kernel_rfl) (.p rfl rfl (by kernel_rfl) (fun _=>by kernel_rfl) (.p rfl rfl (by kernel_rfl) (fun _=>by kernel_rfl) (.cons rfl rfl (.inl ⟨by kernel_rfl,fun _ h=>by have h0:=h;dsimp only [pt];go_simp;try with_reducible rfl⟩) (.cons rfl rfl (.inl ⟨by kernel_rfl,fun _ _=>(Jw8 (x:=.tmp 14) (y:=.const (.string ⟨#[116,114,105,112]⟩)) lw wTr (by kernel_rfl) (by kernel_rfl) (by kernel_rfl) rfl).trans (by rw [q1])⟩) (.p rfl rfl (by kernel_rfl) (fun _=>by kernel_rfl) (.p rfl rfl (by kernel_rfl) (fun _=>by kernel_rfl) (.p rfl rfl (by kernel_rfl) (fun _=>by kernel_rfl) (.p rfl rfl (by kernel_rfl) (fun _=>by kernel_rfl) (.cons rfl rfl (.inl ⟨by kernel_rfl,fun _ h=>by have h0:=h;dsimp only [pt];go_simp;try with_reducible rfl⟩) (.cons rfl rfl (.inl ⟨by kernel_rfl,fun _ _=>(Jw8 (x:=.tmp 20) (y:=.const (.string ⟨#[99,97,108,108]⟩)) lw wCc (by kernel_rfl) (by kernel_rfl) (by kernel_rfl) rfl).trans (by rw [hq2])⟩) (.cons rfl rfl (.inl ⟨by kernel_rfl,fun _ _=>by kernel_rfl⟩) .nil))))))))))))))) [0,1,2,3,4,5,6,7,8,9,10,11,12,13,14] rfl rfl (by kernel_rfl) (fun _ _ _ _ _ h=>h) (N1.out.cell (by decide) hlast) ?_;refine key _ rfl (by kernel_rfl) rfl rfl rfl (by rw [ko];kernel_rfl) (by kernel_rfl) ?_;clear hq2;all_goals
  clear key q1 hw ko hok;intro w2 n2;have N2:=Lib.hid (n2.on (Below.refl _ _).drew);clear n2;go_wp2_with fail
  refine Ja6 (S:=fun X=>X.cell? ⟨F,17,none⟩=some (.map (some B_st))) _ 19 rfl (by kernel_rfl) (by kernel_rfl) (by kernel_rfl) (Jba 19 0) (by kernel_rfl) (N2.out.cell (by decide) X_st.cell) (fun _=>?_);refine Ja3 (L:=[(0,24,pt F 0),(1,25,pt F 0),(2,26,pt F 0),(3,27,pt F 0),(4,28,pt F 0),(5,29,pt F 17),(6,30,.map (some B_st)),(8,32,pt F 0),(9,33,pt F 0),(10,34,pt F 0),(12,36,pt F 0),(13,37,pt F 0),(14,38,pt F 0)]) (.p rfl rfl (by kernel_rfl) (fun _=>by kernel_rfl) (.p rfl rfl (by kernel_rfl) (fun _=>by kernel_rfl) (.p rfl rfl (by kernel_rfl) (fun _=>by kernel_rfl) (.p rfl rfl (by kernel_rfl) (fun _=>by kernel_rfl) (.p rfl rfl (by kernel_rfl) (fun _=>by kernel_rfl) (.p rfl rfl (by kernel_rfl) (fun _=>by kernel_rfl) (.cons rfl rfl (.inl ⟨by kernel_rfl,fun _ h=>by have h0:=h;dsimp only [pt];go_simp;try with_reducible rfl⟩) (.p rfl rfl (by kernel_rfl) (fun _=>by kernel_rfl) (.p rfl rfl (by kernel_rfl) (fun _=>by kernel_rfl) (.p rfl rfl (by kernel_rfl) (fun _=>by kernel_rfl) (.p rfl rfl (by kernel_rfl) (fun _=>by kernel_rfl) (.p rfl rfl (by kernel_rfl) (fun _=>by kernel_rfl) (.p rfl rfl (by kernel_rfl) (fun _=>by kernel_rfl) .nil))))))))))))) [0,1,2,3,4,5,6,8,9,10,12,13,14] rfl rfl (by kernel_rfl) (fun _ _ _ _ _ h=>h) (N2.out.cell (by decide) X_st.cell) ?_;refine Jhv (j:=17) (dj:=2) (v:=fun X=>.pointer (some ⟨X.heap.size,0,none⟩)) (m:=fun X=>X.alloc (.cells #[.int .i64 0,.int .i64 0,.int .i64 0,.bool false,.bool false] 58 (0,0))) (L:=Lq W (.cells #[.int .i64 0,.int .i64 0,.int .i64 0,.bool false,.bool false] 58 (0,0))) (G:=Nx F vs g W 0 (fe1 (fe1 0 (if (g.drop 0).length=4 then 0 else 1)) (if ok then 0 else 8))) (I:=[7,11,15,16]) (.rd 31 (.int .i64 (fnd 9 i_st (g.getD 0 [])).1) rfl rfl (by decide) (fun _=>rfl) (fun _=>by kernel_rfl) (fun _ _=>by kernel_rfl) (Jcs B_st i_st (X_st.off H.st).1 (X_st.off H.st).2 0 _ (H.fld _)) (fun X h=>(h.cell (by decide) X_st.cell)) (.rd 35 (.int .i64 (F_.tim (g.getD 1 [])).1) rfl rfl (by decide) (fun _=>rfl) (fun _=>by kernel_rfl) (fun _ _=>by kernel_rfl) (Jg8 F_ 1 _ (fun w h=>FO.tim _ (H.fld _) w (H.low h))) (fun X h=>(h.cell (by decide) X_st.cell)) (.rd 39 (.int .i64 (F_.tim (g.getD 2 [])).1) rfl rfl (by decide) (fun _=>rfl) (fun _=>by kernel_rfl) (fun _ _=>by kernel_rfl) (Jg8 F_ 2 _ (fun w h=>FO.tim _ (H.fld _) w (H.low h))) (fun X h=>(h.cell (by decide) X_st.cell)) (.step 40 (.agg #[.int .i64 (fnd 9 i_st (g.getD 0 [])).1,.int .i64 (F_.tim (g.getD 1 [])).1,.int .i64 (F_.tim (g.getD 2 [])).1,.bool false,.bool false]) rfl rfl (by decide) (fun _=>rfl) (fun _=>by kernel_rfl) (fun _ _=>by kernel_rfl) (Nx.new _) (fun X h=>(h.cell (by decide) X_st.cell)) (.nil (Nx.new _) (fun X h=>(h.cell (by decide) X_st.cell))))))) rfl rfl (fun _=>rfl) (fun _ _=>by kernel_rfl) rfl (by kernel_rfl) N2.out ?_;rintro q w3 n3 ⟨b,rfl,hb0,hb1⟩;have hF:b≠F:=by have:=n3.2.1;omega
  refine Jco (i:=18) _ rfl (by kernel_rfl) rfl rfl rfl (Jan 58 (.tmp 2) (.tmp 40) (by kernel_rfl) b #[.int .i64 (fnd 9 i_st (g.getD 0 [])).1,.int .i64 (F_.tim (g.getD 1 [])).1,.int .i64 (F_.tim (g.getD 2 [])).1,.bool false,.bool false] (by kernel_rfl) (by kernel_rfl) _ _ hb1 (by kernel_rfl) (by kernel_rfl) (by kernel_rfl)) ((n3.off (Jcp w3 b _) hb0 hF).cell (by decide) X_st.cell) ?_;refine Jb2 (by kernel_rfl) ?_;have n4:=n3.off (Jcp w3 b #[.int .i64 (fnd 9 i_st (g.getD 0 [])).1,.int .i64 (F_.tim (g.getD 1 [])).1,.int .i64 (F_.tim (g.getD 2 [])).1,.bool false,.bool false]) hb0 hF;have y4:=setRow_heap w3 b _ #[.int .i64 (fnd 9 i_st (g.getD 0 [])).1,.int .i64 (F_.tim (g.getD 1 [])).1,.int .i64 (F_.tim (g.getD 2 [])).1,.bool false,.bool false] _ _ hb1;generalize w3.setRow b #[.int .i64 (fnd 9 i_st (g.getD 0 [])).1,.int .i64 (F_.tim (g.getD 1 [])).1,.int .i64 (F_.tim (g.getD 2 [])).1,.bool false,.bool false]=w4 at n4 y4 ⊢;have C4:=Lib.hid (J1n (F:=F) (vs:=vs) (g:=g) (W0:=W) 3 _ w4 n4);obtain⟨p1,hp1⟩:∃p,decide ((prm (g.getD 3 [])).1=1∨(prm (g.getD 3 [])).1=3)=p:=⟨_,rfl⟩;obtain⟨p2,hp2⟩:∃p,decide (2≤(prm (g.getD 3 [])).1)=p:=⟨_,rfl⟩;rw [hp1,hp2] at C4;have HP1:=Lib.hid hp1;have HP2:=Lib.hid hp2;have Y4:=Lib.hid y4;clear n3 hb1 n4 y4 N2 hp1 hp2;go_wp2_with fail
  refine C4.out.mono ?_;rintro r w5 ⟨rfl,n5,s5⟩;have y5:=s5 _ _ hF Y4.out;have b3:w5.cell? ⟨b,3,none⟩=some (.bool false):=by rw [cell_of_row _ _ 3 _ _ _ y5];rfl
  have f3:=frozen_of_row w5 b 3 _ _ y5;have n6:=n5.off (Jbi w5 b 3 (.bool p1)) hb0 hF;have y6:=heap_setCell_same w5 b 3 _ _ (.bool p1) y5;obtain⟨w6,h6⟩:∃X,w5.setCell ⟨b,3,none⟩ (.bool p1)=X:=⟨_,rfl⟩;rw [h6] at n6 y6;have b4:w6.cell? ⟨b,4,none⟩=some (.bool false):=by rw [cell_of_row _ _ 4 _ _ _ y6];rfl
  have f4:=frozen_of_row w6 b 4 _ _ y6;have n7:=n6.off (Jbi w6 b 4 (.bool p2)) hb0 hF;have y7:=heap_setCell_same w6 b 4 _ _ (.bool p2) y6;obtain⟨w7,h7⟩:∃X,w6.setCell ⟨b,4,none⟩ (.bool p2)=X:=⟨_,rfl⟩;rw [h7] at n7 y7;have N7:Hid (Nx F vs g W 4 (e_cc F_ g i_st ok) w7):=Lib.hid n7;have Y7:Hid (w7.heap[b]?=some (.cells (c_cc F_ g i_st) 58 (0,0))):=Lib.hid (by show _=some (Obj.cells #[_,_,_,.bool (decide ((prm (g.getD 3 [])).1=1∨(prm (g.getD 3 [])).1=3)),.bool (decide (2≤(prm (g.getD 3 [])).1))] _ _);rw [HP1.out,HP2.out];exact y7);have HB0:=Lib.hid hb0;have er:=N7.out.err.1;clear n5 s5 y5 n6 y6 n7 y7 C4 Y4 hb0 hF;by_cases he:e_cc F_ g i_st ok=0
  ·rw [he] at er
   have HE:=Lib.hid he;have hk:ok=true:=by
    cases ok with
    | true=>rfl
    | false=>exact absurd he (by unfold e_cc;exact e_no _ _ _ _ _)
   obtain⟨l0,x,hlx,hrow,hfew⟩:=hl hk;obtain⟨vg,G7⟩:=H.up N7.out;have G8:=H.st.boxed G7 HB0.out Y7.out (c_cc F_ g i_st);rw [setRow_self w7 b _ _ _ Y7.out,he] at G8;clear N7 Y7 HB0 hl;subst hlx;obtain⟨A,c,rfl⟩:=tb.slice H.st;have hr4:=G8.row (Ja2 tb.row);obtain⟨gb,rfl⟩:∃gb,A=some ⟨gb,0,none⟩:=by
    rcases hr4.2 with ⟨_,h0⟩ | ⟨gb,cap,cur,h0,_⟩
    ·simp at h0
    ·cases h0;exact⟨gb,rfl⟩
   have m6:=(G8.cell ((Jab (by decide)).trans tb.cell)).1;rw [List.length_append,List.length_singleton] at m6;have hn:=tb.few;rw [List.length_append,List.length_singleton] at hn;have HL0:Hid (tb=tb):=Lib.hid rfl;obtain⟨n,hn0⟩:∃n,l0.length=n:=⟨_,rfl⟩;have HN0:=Lib.hid hn0;rw [hn0] at m6 hn;have h1:(0:Int)≤(n:Int):=by omega
   have h2:(n:Int)<(n:Int)+1:=by omega
   have h3:n<n+1:=by omega
   have h4:¬((n:Int)+1 - 1<0):=by omega
   clear hn0;have G8:=Lib.hid G8;go_wp2_with fail
   go_quiet (fail)
   have B7:=Jaj (Below.refl w7.heap.size w7) nq;generalize w7.drewN nq=w8 at B7 ⊢;obtain⟨w9,h9⟩:∃X,w8.drew=X:=⟨_,rfl⟩;have G9:=G8.out.on (W':=w9) (by rw [←h9];exact B7.drew);have r4:=G9.row (Ja2 tb.row);have hvc:=Jsr l0 x;rw [HN0.out] at hvc;have c4:=World.ownsRow.cells r4 (g:=gb) rfl _ _ hvc;rw [Addr.add_lit,Nat.zero_add] at c4;obtain⟨vc,hvx⟩:∃v,x.2.2.2.2.1=v:=⟨_,rfl⟩;rw [hvx] at c4 hrow;rw [HN0.out] at hrow;go_wp2_with fail
   refine Jdr (S:=fun X=>X.cell? ⟨gb,n*5+4,none⟩=some vc∧X.heap[b]?=some (.cells (c_cc F_ g i_st) 58 (0,0))) _ 11 10 rfl (by kernel_rfl) (by kernel_rfl) (by kernel_rfl) (Jba 11 0) (by kernel_rfl) ?_;rw [h9];refine Jdd (L:=[(0,69,pt gb (n*5)),(1,70,pt gb (n*5)),(2,71,pt gb (n*5)),(3,72,pt gb (n*5+4)),(4,73,vc),(5,74,.agg (c_cc F_ g i_st))]) rfl (.q (.q (.q (.q (.cons rfl rfl (.inl ⟨rfl,fun _ h=>by obtain⟨h0,hb⟩:=h;dsimp only [pt];go_simp;try with_reducible rfl⟩) (.cons rfl rfl (.inl ⟨rfl,fun _ h=>by obtain⟨h0,hb⟩:=h;exact Jat 58 (.tmp 2) (by kernel_rfl) b (by kernel_rfl) _ _ _ _ hb underlying58 rfl (by kernel_rfl)⟩) .nil)))))) [0,1,2,3,4,5] rfl rfl (by kernel_rfl) (fun _ _ _ _ _ h=>h) ⟨c4,G9.box_last⟩ ?_;obtain⟨w10,h10⟩:∃X,w9.alloc (.cells (c_cc F_ g i_st) 58 (0,0))=X:=⟨_,rfl⟩;have b10:Below w9.heap.size w9 w10:=by rw [←h10];exact (Below.refl _ _).alloc (Nat.le_refl _) _
   have G10:=G9.on b10;have y10:=heap_alloc_new w9 (.cells (c_cc F_ g i_st) 58 (0,0));rw [h10] at y10;have c10:=(b10.cell (p:=⟨gb,n*5+4,none⟩) ((World.ownsRow.lt r4 gb rfl).2)).trans c4;refine Jcj (i:=6) (v:=.slice (some ⟨w9.heap.size,0,none⟩) 1 1) (w':=w10) 75 _ rfl (by kernel_rfl) rfl rfl rfl (by rw [←h10];kernel_rfl) ⟨c10,G10.box_last⟩ rfl ?_;obtain⟨v7,w11,hr7,o7,g7,p7⟩:=Jbz (enc:=cc) Jii (by decide) underlying54 J12 rfl (by decide) w10 54 w0.heap.size vc x.2.2.2.2.2 (x_cc F_ g i_st) (fun u hu=>by simp only [cc,List.mem_cons,List.not_mem_nil,or_false] at hu;rcases hu with rfl | rfl | rfl | rfl | rfl <;> rfl) (G10.row (Ja2 hrow)) _ _ y10 rfl G10.base.size (by omega);have LN:(x.2.2.2.2.2++[x_cc F_ g i_st]).length=x.2.2.2.2.2.length+1:=by simp
   have o7':w11.ownsRow w0.heap.size 58 5 v7 (x.2.2.2.2.2.length+1) (fl cc (x.2.2.2.2.2++[x_cc F_ g i_st])):=by have:=o7;unfold OwnG at this;rwa [LN] at this
   have G11:=G10.turn (t':=tRow w0.heap.size ⟨58,5,v7,x.2.2.2.2.2.length+1,fl cc (x.2.2.2.2.2++[x_cc F_ g i_st])⟩) (Ja2 hrow) g7 (tRow.at o7') p7;rw [List.set_append_left (h:=(List.getElem?_eq_some_iff.1 hrow).1)] at G11;have H4:(ts.set (28+n) (tRow w0.heap.size ⟨58,5,v7,x.2.2.2.2.2.length+1,fl cc (x.2.2.2.2.2++[x_cc F_ g i_st])⟩))[4]?=some (tRow w0.heap.size ⟨56,5,.slice (some ⟨gb,0,none⟩) (l0++[x]).length c,(l0++[x]).length,fl te (l0++[x])⟩):=(List.getElem?_set_ne (by omega)).trans tb.row;have r11:=G11.row (Ja2 H4);have c11:=World.ownsRow.cells r11 (g:=gb) rfl _ _ (by rw [←hvx] at c4;exact hvc);rw [Addr.add_lit,Nat.zero_add,hvx] at c11;refine Jcj (i:=7) (v:=v7) (w':=w11) 76 _ rfl (by kernel_rfl) rfl rfl rfl (Ja1 (s:=.tmp 73) (x:=.tmp 75) (ST:=54) (by kernel_rfl) (by kernel_rfl) (by kernel_rfl) hr7) ⟨c11,G11.box_last⟩ rfl ?_;refine Jgs (L:=[(8,77,pt gb (n*5)),(9,78,pt gb (n*5+4))]) (.q (.q .nil)) [8,9] rfl rfl (by kernel_rfl) ⟨c11,G11.box_last⟩ ?_;have f11:=World.ownsRow.frozenAt r11 (n*5+4);obtain⟨A7,c7,e7,-⟩:=o7.lst;rw [LN] at e7;subst e7;refine Jds (w':=w11.setCell ⟨gb,n*5+4,none⟩ (.slice A7 (x.2.2.2.2.2.length+1) c7)) _ rfl (by kernel_rfl) rfl rfl rfl (by dsimp only [pt];go_simp;try with_reducible rfl) ?_;refine Jgd (by kernel_rfl) ?_;have s11:=(World.ownsRow.stored r11 (n*5+4) (.slice A7 (x.2.2.2.2.2.length+1) c7)).1;have hfl:=J7s l0 x (putV (.slice A7 (x.2.2.2.2.2.length+1) c7) (x_cc F_ g i_st) x) (.slice A7 (x.2.2.2.2.2.length+1) c7) rfl;rw [HN0.out] at hfl;rw [hfl] at s11;have G12:=G11.turn (t':=tRow w0.heap.size ⟨56,5,.slice (some ⟨gb,0,none⟩) (l0++[x]).length c,(l0++[x]).length,fl te (l0++[putV (.slice A7 (x.2.2.2.2.2.length+1) c7) (x_cc F_ g i_st) x])⟩) (Ja2 H4) (Jbi w11 gb (n*5+4) _) (tRow.at s11) (fun k hk=>.inl hk);rw [List.set_append_left (h:=(List.getElem?_eq_some_iff.1 H4).1)] at G12;have G13:=G12.less;rw [←HN0.out] at G13;have GE:=Lib.hid (ZY.out HE.out vg _ l0 x _ rfl G13);clear G13 G12 s11 hfl r11 c11 f11 G11 H4 o7' o7 g7 p7 hr7 LN c10 y10 G10 b10 h10 r4 c4 hvc G9 h9 B7 hrow;rw [HN0.out] at GE;generalize w11.setCell ⟨gb,n*5+4,none⟩ (.slice A7 (x.2.2.2.2.2.length+1) c7)=w12 at GE ⊢;go_wp2_with fail
   go_end0;exact⟨rfl,GE.out⟩
  ·have g1:((e_cc F_ g i_st ok)==0)=false:=Jac he
   obtain⟨vg,G7⟩:=H.up N7.out;have HE:=Lib.hid (ZN.out he vg w7 G7);clear G7 N7 Y7 HB0 hl;generalize e_cc F_ g i_st ok=ee at er g1;go_wp2_with fail
   go_end0;exact⟨rfl,HE.out⟩
open Go
theorem Jb6 (l:List Int):err l=l.foldl fe1 0:=by
 have key:∀(l:List Int) (e:Int),l.foldl fe1 e=fe1 e (err l):=by
  intro l;induction l with
  | nil=>intro e;exact (Jcf e).symm
  | cons x l ih =>
   intro e;rw [List.foldl_cons,ih];show fe1 (fe1 e x) (err l)=fe1 e (if x=0 then err l else x)
   by_cases he:e=0
   ·rw [Jj6 he,Jj6 he];unfold fe1;rfl
   ·rw [Jhs he,Jhs he,Jhs he]
 rw [key,Jj6 rfl]
theorem Jct (x:Int):fe1 1 x=1:=if_neg (by decide)
theorem Jw9 (x:Bs):x.length≤(Ja5 x).length:=by
 unfold Ja5;induction x with
 | nil=>exact Nat.le_refl _
 | cons c l ih=>rw [List.flatMap_cons,List.length_append,List.length_cons];have:=J3w c;omega
theorem Jmi (x:Bs):x.length≤(Jai x).length:=by
 unfold Jai;split
 ·exact Nat.le_refl _
 ·have:=Jw9 x
  simp;omega
theorem Jj9:∀(fs:List Bs),fs≠[]→(fs.map fun f=>f.length+1).sum≤(Jax fs).length+1
 | [],h=>absurd rfl h
 | [x],_=>by
  show x.length+1+0≤(Jai x).length+1
  have:=Jmi x;omega
 | x::y::l,_=>by
  have ih:=Jj9 (y::l) (by simp);have e:Jax (x::y::l)=Jai x++44::Jax (y::l):=rfl;rw [e,List.length_append,List.length_cons,List.map_cons,List.sum_cons];have:=Jmi x;omega
theorem J7t {l:List Bs} {f:Bs} (h:f∈l):f.length+1≤(l.map fun f=>f.length+1).sum:=by
 induction l with
 | nil=>cases h
 | cons x l ih =>
  rw [List.map_cons,List.sum_cons];rcases List.mem_cons.1 h with rfl | h
  ·omega
  ·have:=ih h;omega
theorem J36 {x:Bs} (h:(splR x).2=0) (hx:x≠[]):x.length≤65536∧Jax (splR x).1=x∧(splR x).1≠[]∧(splR x).1.length≤64∧∀f∈(splR x).1,f.length≤x.length:=by
 unfold splR at h ⊢;by_cases h1:65536<x.length
 ·rw [if_pos h1] at h;cases h
 ·rw [if_neg h1,if_neg hx] at h ⊢
  obtain⟨e,n,l⟩:=Jit 64 x (Jaw 64 x).1 (by rw [←h]);refine⟨by omega,e,n,l,fun f hf=>?_⟩;have a:=Jj9 _ n;have b:=J7t hf;rw [e] at a;omega
theorem Qat (F:Fm) (r:Rd) (x:Bs) (n:Int) (h:(oneR F r x n).1=0):(oneR F r x n).2.T.fr.length=r.T.fr.length∨((oneR F r x n).2.T.fr.length=r.T.fr.length+1∧13≤x.length):=by
 unfold oneR at h ⊢;by_cases hi:ign x=true
 ·rw [if_pos hi];exact .inl rfl
 ·rw [if_neg hi] at h ⊢
  by_cases hs:(splR x).2=0
  ·rw [if_neg (fun k=>k hs)] at h ⊢
   have hx:x≠[]:=fun e=>hi (by rw [e];rfl)
   obtain⟨-,hl,hn,-,-⟩:=J36 hs hx;generalize (splR x).1=f at *;unfold rcd at h ⊢;simp only at h ⊢;have hk:=Jf6 (f.headD []);by_cases h12:kind (f.headD [])=12
   ·rw [if_pos h12] at h;exact absurd h (by simp)
   ·rw [if_neg h12] at h ⊢
    by_cases hc:f.length=cnts.getD (kind (f.headD [])) 0
    ·rw [if_neg (fun k=>k hc)] at h ⊢
     split at h
     ·exact absurd h (by simp)
     ·split at h
      ·exact absurd h (by simp)
      ·next h10 h11 =>
       rw [if_neg h10,if_neg h11];have A:=(Jns F r.T (kind (f.headD [])) (by omega) f hc).1 5 (by omega);have A:(addR F r.T (kind (f.headD [])) f).2.fr.length=r.T.fr.length+(if 5=kind (f.headD []) then 1 else 0):=A;by_cases h5:5=kind (f.headD [])
       ·right
        refine⟨by show (addR F r.T _ f).2.fr.length=_;rw [A,if_pos h5],?_⟩;rw [←h5] at hc;obtain⟨a,b,c,d,e,rfl⟩:=five hc;have ha:a=wFr:=by
         have q:kind a=5:=h5.symm;unfold kind at q;have hlt:kinds.findIdx (fun x=>decide (x=a))<kinds.length:=by rw [q];decide
         have g:=List.findIdx_getElem (w:=hlt);simp only [decide_eq_true_eq] at g;rw [←g];simp only [q];rfl
        have:=Jj9 [a,b,c,d,e] (by simp);rw [hl,ha] at this;simp [wFr] at this;omega
       ·left
        show (addR F r.T _ f).2.fr.length=_
        rw [A,if_neg h5];rfl
    ·rw [if_pos hc] at h;exact absurd h (by simp)
  ·rw [if_pos hs] at h;exact absurd h hs
theorem J7u (F:Fm):∀(B:List Bs) (n:Int) (r:Rd),(goR F B n r).2.1=0→(goR F B n r).2.2.T.fr.length*14≤r.T.fr.length*14+(Jag B).length
 | [],_,_,_=>by simp [goR]
 | x::B,n,r,h=>by
  unfold goR at h ⊢;by_cases h0:(oneR F r x n).1=0
  ·rw [if_neg (fun k=>k h0)] at h ⊢
   have ih:=J7u F B (n+1) _ h;have e:Jag (x::B)=x++[10]++Jag B:=rfl;rw [e,List.length_append,List.length_append];rcases Qat F r x n h0 with q | ⟨q,l⟩
   ·rw [q] at ih;simp;omega
   ·rw [q] at ih;simp;omega
  ·rw [if_pos h0] at h;exact absurd h h0
end
end Go.Proofs.YtpifdbphmnifdaaGreatDoor
