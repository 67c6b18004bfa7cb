/-
  Facts. Condition: each theorem's own.
-/
import Derived.Test.YtpifdbphmnifdaaGreatDoorYF19
set_option maxRecDepth 100000
set_option maxHeartbeats 8000000
section
variable {p:Prop}
theorem Waj(h:p:=by rw[if_neg q] at hE;exact absurd hE Kd):p:=h
theorem Wak(h:p:=by rw[if_neg h'];simp only[show fe1 0 1=1 from rfl,Jdg]):p:=h
theorem Wal(h:p:=by simp only[List.length_set]):p:=h
theorem Wam(h:p:=by dsimp only[pt];go_simp;try with_reducible rfl):p:=h
theorem Wan(h:p:=by rw[e];exact Jcm (by rw[List.length_set];omega)):p:=h
theorem Wao(h:p:=by rw[List.length_set];omega):p:=h
theorem Wap(h:p:=by go_wp2_with fail;go_end0;exact⟨rfl,HE.out⟩):p:=h
theorem Waq(h:p:=by rw[e];exact Jcm Ka):p:=h
end
open Go.Proofs.Tryz
namespace Go.Proofs.YtpifdbphmnifdaaGreatDoor
section
open Go.RowKit
def tLin(B n:Nat)(V:List UInt8->Value):Tng:=tBlk B fun W=>MapL W B n V
abbrev e_fa(F_:Fm)(g:List Bs)(m:Nat):Int:=fe1 (fe1 (fe1 (fe1 (fe1 0 (if(g.drop 0).length=3 then 0 else 1)) (if m=0 then 0 else 6)) (F_.prc (g.getD 0 [])).2) (F_.dur (g.getD 1 [])).2) (F_.prc (g.getD 2 [])).2
theorem Qei{P:Program}{a:Act}{o:Oper}{w:World}(m:Nat){x y:Operand}(ho:o.op=.binOp .eql 3 x y 3)(hx:a.eval x=.int .i64 (m:Nat))(hy:a.eval y=.int .i64 0)(ha:prog=P):(execOp a.eval o).run P w=.ok (.value (.bool (decide (m=0)))) w:=by
 subst ha;have e:((m:Int)==0)=decide (m=0):=by
  by_cases h:m=0
  ·subst h;rfl
  ·rw[Pj h];exact Jaa Ka
 unfold execOp;simp only[ho,hx,hy];go_simp;try rw[e]
theorem Qej(F_:Fm){w0:World}{F:Nat}{vs:List Value}{ts:List Tng}{g:List Bs}{W:World}(H:Rec w0 F vs ts g W)(FO:Fo F_ w0){B n m c:Nat}{A:Option Addr}{V:List UInt8->Value}(hm:vs[15]?=some (.map (some B)))(hM:ts[10]?=some (tLin B n V))(hV:V wFa=.slice A m c){x y z:Value}(h12:vs[12]?=some x)(h13:vs[13]?=some y)(h14:vs[14]?=some z):
  Calls prog 94 #[.pointer (some ⟨F,0,none⟩)] W fun r w'=>r=.returned (.tuple #[])/\∃v',Gst w0 F 80 ((((set2 vs v' (e_fa F_ g m)).set 12 (.int .i64 (F_.prc (g.getD 0 [])).1)).set 13 (.int .i64 (F_.dur (g.getD 1 [])).1)).set 14 (.int .i64 (F_.prc (g.getD 2 [])).1)) ts w':=by
 suffices h:∀Z:World->Prop,(∀v' w',Gst w0 F 80 ((((set2 vs v' (e_fa F_ g m)).set 12 (.int .i64 (F_.prc (g.getD 0 [])).1)).set 13 (.int .i64 (F_.dur (g.getD 1 [])).1)).set 14 (.int .i64 (F_.prc (g.getD 2 [])).1)) ts w'->Z w')->Calls prog 94 #[.pointer (some ⟨F,0,none⟩)] W fun r w'=>r=.returned (.tuple #[])/\Z w' from h _ (fun v' _ h=>⟨v',h⟩)
 intro Z hZ;have HZ:=Pe hZ;clear hZ;obtain⟨vq,pq⟩:=H.prd;have C0:=Pe (Jbp (F:=F) (vs:=vs) (g:=g) (W0:=W) 3 0 0 H.len W (Nx.start pq));clear pq;have LK:∀(X:World) (k:Nat) (e:Int),Nx F vs g W k e X->(Instr.lookup 76 (.map (some B)) (.string ⟨#[102,97,114,101,115]⟩) false).run prog X=.ok (.slice A m c) X:=fun X k e hX=>by
  have hb:=H.st.blk hM;have:=(hb.1.kept hX.1 (by simpa using hb.2.2.2)).look (str wFa) wFa rfl Kd;rw[hV] at this;exact this
 go_enter func94,ntmps94;go_wp2_with fail;refine C0.out.mono ?_;rintro r w1 ⟨rfl,n1,-⟩;have N1:=Pe (n1.on (Below.refl _ _).drew);clear n1 C0;go_wp2_with fail;refine Jbf (S:=fun X=>X.cell? ⟨F,15,none⟩=some (.map (some B))/\(Instr.lookup 76 (.map (some B)) (.string ⟨#[102,97,114,101,115]⟩) false).run prog X=.ok (.slice A m c) X) _ 11 rfl Kl Kl Kl (Jbl 11 0) Kl ⟨N1.out.cell Kd hm,LK _ _ _ N1.out⟩ (fun _=>?_);refine Jbb (L:=[(0,7,pt F 0),(1,8,pt F 0),(2,9,pt F 0),(3,10,pt F 0),(4,11,pt F 0),(5,12,pt F 15),(6,13,.map (some B)),(7,14,.slice A m c),(8,15,.int .i64 (m:Nat)),(9,16,.bool (decide (m=0)))]) (.p rfl rfl Kl (fun _=>Kl) (.p rfl rfl Kl (fun _=>Kl) (.p rfl rfl Kl (fun _=>Kl) (.p rfl rfl Kl (fun _=>Kl) (.p rfl rfl Kl (fun _=>Kl) (.p rfl rfl Kl (fun _=>Kl) (.cons rfl rfl (.inl ⟨Kl,fun _ h=>by have h0:=h.1;dsimp only[pt];go_simp;try with_reducible rfl⟩) (.cons rfl rfl (.inl ⟨Kl,fun _ h=>Waf⟩) (.cons rfl rfl (.inl ⟨Kl,fun _ _=>Kl⟩) (.cons rfl rfl (.inl ⟨Kl,fun _ _=>Qei m (x:=.tmp 15) (y:=.const (.int .i64 0)) Kl Kl Kl rfl⟩) .nil)))))))))) [0,1,2,3,4,5,6,7,8,9] rfl rfl Kl (fun _ _ _ _ _ h=>h) ⟨N1.out.cell Kd hm,LK _ _ _ N1.out⟩ ?_;have E:(if decide (m=0)=true then fe1 0 (if(g.drop 0).length=3 then 0 else 1) else fe1 (fe1 0 (if(g.drop 0).length=3 then 0 else 1)) 6)=fe1 (fe1 0 (if(g.drop 0).length=3 then 0 else 1)) (if m=0 then 0 else 6):=by
  by_cases h:m=0
  ·rw[if_pos (Pk h),if_pos h,Jc2]
  ·rw[if_neg Kt,if_neg h]
 refine Jb7 (i:=10) 17 _ rfl Kl rfl rfl rfl Kl ((Jdu (decide (m=0)) 6 0 _).ret N1.out) ?_;rintro u w2 ⟨rfl,n2⟩;rw[E] at n2;refine⟨⟨n2.cell Kd hm,LK _ _ _ n2⟩,?_⟩;refine Jcl Kl ?_;have N2:=Pe (n2.on (Below.refl _ _).drew);clear n2 N1 E;go_wp2_with fail;refine Jbf (S:=fun _=>True) _ 24 rfl Kl Kl Kl (Jbl 24 0) Kl trivial (fun _=>?_);refine Jbb (L:=[(0,22,pt F 11),(1,23,pt F 11),(2,24,pt F 11),(3,25,pt F 0),(4,26,pt F 0),(5,27,pt F 0),(7,29,pt F 0),(8,30,pt F 0),(9,31,pt F 0),(11,33,pt F 0),(12,34,pt F 0),(13,35,pt F 0)]) (.p rfl rfl Kl (fun _=>Kl) (.p rfl rfl Kl (fun _=>Kl) (.p rfl rfl Kl (fun _=>Kl) (.p rfl rfl Kl (fun _=>Kl) (.p rfl rfl Kl (fun _=>Kl) (.p rfl rfl Kl (fun _=>Kl) (.p rfl rfl Kl (fun _=>Kl) (.p rfl rfl Kl (fun _=>Kl) (.p rfl rfl Kl (fun _=>Kl) (.p rfl rfl Kl (fun _=>Kl) (.p rfl rfl Kl (fun _=>Kl) (.p rfl rfl Kl (fun _=>Kl) .nil)))))))))))) [0,1,2,3,4,5,7,8,9,11,12,13] rfl rfl Kl (fun _ _ _ _ _ h=>h) trivial ?_;refine Jb7 (i:=6) 28 _ rfl Kl rfl rfl rfl Kl ((Jjw F_ 0 _ (fun w h=>FO.prc _ (H.fld _) w (H.low h))).ret N2.out) ?_;rintro u w3 ⟨rfl,n3⟩;refine⟨trivial,?_⟩;have N3:=Pe n3;clear n3;refine Jb7 (i:=10) 32 _ rfl Kl rfl rfl rfl Kl ((Jd3 F_ 1 _ (fun w h=>FO.dur _ (H.fld _) w (H.low h))).ret N3.out) ?_;rintro u w4 ⟨rfl,n4⟩;refine⟨trivial,?_⟩;have N4:=Pe n4;clear n4;refine Jb7 (i:=14) 36 _ rfl Kl rfl rfl rfl Kl ((Jjw F_ 2 _ (fun w h=>FO.prc _ (H.fld _) w (H.low h))).ret N4.out) ?_;rintro u w5 ⟨rfl,n5⟩;refine⟨trivial,?_⟩;have N5:=Pe n5;clear n5;obtain⟨v',G⟩:=H.up N5.out;refine Je1 (i:=15) (v:=pt F 11) (w':=w5) 37 _ rfl Kl rfl rfl rfl Kl trivial rfl ?_;refine Je1 (i:=16) (v:=pt F 12) (w':=w5) 38 _ rfl Kl rfl rfl rfl Kl trivial rfl ?_;obtain⟨k0,k1⟩:=G.cell (i:=12) ((Jae Kd).trans h12);refine Jdj (i:=17) (w':=w5.setCell ⟨F,12,none⟩ (.int .i64 (F_.prc (g.getD 0 [])).1)) _ rfl Kl rfl rfl rfl Wam trivial ?_;replace G:=G.put 12 (.int .i64 (F_.prc (g.getD 0 [])).1);clear k0 k1;generalize w5.setCell ⟨F,12,none⟩ (.int .i64 (F_.prc (g.getD 0 [])).1)=w6 at G |-;refine Je1 (i:=18) (v:=pt F 11) (w':=w6) 39 _ rfl Kl rfl rfl rfl Kl trivial rfl ?_;refine Je1 (i:=19) (v:=pt F 13) (w':=w6) 40 _ rfl Kl rfl rfl rfl Kl trivial rfl ?_;obtain⟨k0,k1⟩:=G.cell (i:=13) ((List.getElem?_set_ne Kd).trans ((Jae Kd).trans h13));refine Jdj (i:=20) (w':=w6.setCell ⟨F,13,none⟩ (.int .i64 (F_.dur (g.getD 1 [])).1)) _ rfl Kl rfl rfl rfl Wam trivial ?_;replace G:=G.put 13 (.int .i64 (F_.dur (g.getD 1 [])).1);clear k0 k1;generalize w6.setCell ⟨F,13,none⟩ (.int .i64 (F_.dur (g.getD 1 [])).1)=w7 at G |-;refine Je1 (i:=21) (v:=pt F 11) (w':=w7) 41 _ rfl Kl rfl rfl rfl Kl trivial rfl ?_;refine Je1 (i:=22) (v:=pt F 14) (w':=w7) 42 _ rfl Kl rfl rfl rfl Kl trivial rfl ?_;obtain⟨k0,k1⟩:=G.cell (i:=14) ((List.getElem?_set_ne Kd).trans ((List.getElem?_set_ne Kd).trans ((Jae Kd).trans h14)));refine Jdj (i:=23) (w':=w7.setCell ⟨F,14,none⟩ (.int .i64 (F_.prc (g.getD 2 [])).1)) _ rfl Kl rfl rfl rfl Wam trivial ?_;replace G:=G.put 14 (.int .i64 (F_.prc (g.getD 2 [])).1);clear k0 k1;generalize w7.setCell ⟨F,14,none⟩ (.int .i64 (F_.prc (g.getD 2 [])).1)=w8 at G |-;refine Jcl Kl ?_;have GE:=Pe G;clear G N2 N3 N4 N5;go_wp2_with fail;go_end0;exact⟨rfl,HZ.out _ _ GE.out⟩
theorem J2o{P:Program}{a:Act}{o:Oper}{w:World}(l m:Bs){x y:Operand}(ho:o.op=.binOp .eql 9 x y 9)(hx:a.eval x=.string (str l))(hy:a.eval y=.string (str m))(ha:prog=P):(execOp a.eval o).run P w=.ok (.value (.bool (decide (l=m)))) w:=by
 subst ha;have e:((str l).toList==(str m).toList)=decide (l=m):=by
  by_cases h:l=m
  ·rw[Pk h];exact Jcn Qc
  ·rw[Pj h];exact Jcx (fun q=>h (Jne q))
 unfold execOp;simp only[ho,hx,hy];go_simp;first | exact e | (by_cases h:l=m <;> simp[h])
abbrev c_cc(F_:Fm)(g i_st:List Bs):Array Value:=#[.int .i64 (fnd 9 i_st (g.getD 0 [])).1,.int .i64 (F_.tim (g.getD 1 [])).1,.int .i64 (F_.tim (g.getD 2 [])).1,.bool (decide ((prm (g.getD 3 [])).1=1\/(prm (g.getD 3 [])).1=3)),.bool (decide (2<=(prm (g.getD 3 [])).1))]
abbrev x_cc(F_:Fm)(g i_st:List Bs):Cl:=((fnd 9 i_st (g.getD 0 [])).1,(F_.tim (g.getD 1 [])).1,(F_.tim (g.getD 2 [])).1,decide ((prm (g.getD 3 [])).1=1\/(prm (g.getD 3 [])).1=3),decide (2<=(prm (g.getD 3 [])).1))
abbrev e_cc(F_:Fm)(g i_st:List Bs)(q:Bool):Int:=fe1 (fe1 (fe1 (fe1 (fe1 (fe1 0 (if(g.drop 0).length=4 then 0 else 1)) (if q then 0 else 8)) (fnd 9 i_st (g.getD 0 [])).2) (F_.tim (g.getD 1 [])).2) (F_.tim (g.getD 2 [])).2) (prm (g.getD 3 [])).2
theorem Jww(l:List Tp)(x:Tp):(fl te (l++[x]))[l.length*5+4]?=some x.2.2.2.2.1:=by
 rw[Jno,Jnp,List.getElem?_append_right (by rw[Jnq Je3];omega),Jnq Je3];rw[show l.length*5+4 - l.length*5=4 by omega];rfl
theorem Qb3(l:List Tp)(x x':Tp)(u:Value)(h:(te x).set 4 u=te x'):(fl te (l++[x])).set (l.length*5+4) u=fl te (l++[x']):=by
 rw[Jno,Jno,Jnp,Jnp,List.set_append_right (h:=by rw[Jnq Je3];omega),Jnq Je3,<-h];congr 2;omega
theorem Jqd{e x:Int}(h:e≠0):fe1 e x≠0:=by rw[Jjv h];exact h
theorem e_no(y a b c d:Int):fe1 (fe1 (fe1 (fe1 (fe1 y 8) a) b) c) d≠0:=by
 have h:fe1 y 8≠0:=by
  by_cases q:y=0
  ·rw[q];decide
  ·exact Jqd q
 exact Jqd (Jqd (Jqd (Jqd h)))
theorem J6q:(prog.info? 58).map (fun i=>(i.zero,i.size,i.bytes))=some (some (.agg #[.int .i64 0,.int .i64 0,.int .i64 0,.bool false,.bool false]),5,32):=Kl
def putV(v:Value)(c:Cl)(x:Tp):Tp:=(x.1,x.2.1,x.2.2.1,x.2.2.2.1,v,x.2.2.2.2.2++[c])
theorem Qek(F_:Fm){w0:World}{F:Nat}{vs:List Value}{ts:List Tng}{g:List Bs}{W:World}(H:Rec w0 F vs ts g W)(FO:Fo F_ w0){lw:Bs}(hlast:vs[16]?=some (.string (str lw))){B_st:Nat}{i_st:List Bs}(X_st:Ix vs ts 0 B_st i_st){v0:Value}{l:List Tp}(tb:Tbl w0 vs ts 4 56 5 v0 l.length (fl te l))
  (hl:decide (lw=wTr) || decide (lw=wCc)->∃l0 x,l=l0++[x]/\ts[28+l0.length]?=some (tRow w0.heap.size ⟨58,5,x.2.2.2.2.1,x.2.2.2.2.2.length,fl cc x.2.2.2.2.2⟩)/\x.2.2.2.2.2.length<=1000000) :
  Calls prog 88 #[.pointer (some ⟨F,0,none⟩)] W fun r w'=>r=.returned (.tuple #[])/\((e_cc F_ g i_st (decide (lw=wTr) || decide (lw=wCc))≠0/\∃v',Gst w0 F 80 (set2 vs v' (e_cc F_ g i_st (decide (lw=wTr) || decide (lw=wCc)))) ts w')\/(e_cc F_ g i_st (decide (lw=wTr) || decide (lw=wCc))=0/\∃v' v7 l0 x,l=l0++[x]/\Gst w0 F 80 (set2 vs v' 0) ((ts.set (28+l0.length) (tRow w0.heap.size ⟨58,5,v7,x.2.2.2.2.2.length+1,fl cc (x.2.2.2.2.2++[x_cc F_ g i_st])⟩)).set 4 (tRow w0.heap.size ⟨56,5,v0,l.length,fl te (l0++[putV v7 (x_cc F_ g i_st) x])⟩)) w')):=by
 obtain⟨ok,hok⟩:=Pi ((decide (lw=wTr) || decide (lw=wCc)));rw[hok] at hl |-;generalize hZ:(fun w':World=>(e_cc F_ g i_st ok≠0/\∃v',Gst w0 F 80 (set2 vs v' (e_cc F_ g i_st ok)) ts w')\/(e_cc F_ g i_st ok=0/\∃v' v7 l0 x,l=l0++[x]/\Gst w0 F 80 (set2 vs v' 0) ((ts.set (28+l0.length) (tRow w0.heap.size ⟨58,5,v7,x.2.2.2.2.2.length+1,fl cc (x.2.2.2.2.2++[x_cc F_ g i_st])⟩)).set 4 (tRow w0.heap.size ⟨56,5,v0,l.length,fl te (l0++[putV v7 (x_cc F_ g i_st) x])⟩)) w'))=Z;suffices h:Calls prog 88 #[.pointer (some ⟨F,0,none⟩)] W fun r w'=>r=.returned (.tuple #[])/\Z w' from by subst hZ;exact h
 have ZN:Hid (e_cc F_ g i_st ok≠0->∀v' w',Gst w0 F 80 (set2 vs v' (e_cc F_ g i_st ok)) ts w'->Z w'):=Pe (fun h v' w' hG=>by subst hZ;exact .inl ⟨h,v',hG⟩);have ZY:Hid (e_cc F_ g i_st ok=0->∀v' v7 l0 x w',l=l0++[x]->Gst w0 F 80 (set2 vs v' 0) ((ts.set (28+l0.length) (tRow w0.heap.size ⟨58,5,v7,x.2.2.2.2.2.length+1,fl cc (x.2.2.2.2.2++[x_cc F_ g i_st])⟩)).set 4 (tRow w0.heap.size ⟨56,5,v0,l.length,fl te (l0++[putV v7 (x_cc F_ g i_st) x])⟩)) w'->Z w'):=Pe (fun h v' v7 l0 x w' hl hG=>by subst hZ;exact .inr ⟨h,v',v7,l0,x,hl,hG⟩);clear hZ;obtain⟨vq,pq⟩:=H.prd;have C0:=Pe (Jbp (F:=F) (vs:=vs) (g:=g) (W0:=W) 4 0 0 H.len W (Nx.start pq));clear pq;have E:Hid ((if ok=true then fe1 0 (if(g.drop 0).length=4 then 0 else 1) else fe1 (fe1 0 (if(g.drop 0).length=4 then 0 else 1)) 8)=fe1 (fe1 0 (if(g.drop 0).length=4 then 0 else 1)) (if ok then 0 else 8)):=Pe (by
  cases ok with
  | true=>rw[if_pos rfl,if_pos rfl,Jc2]
  | false=>rfl)
 go_enter func88,ntmps88;go_wp2_with fail;refine C0.out.mono ?_;rintro r w1 ⟨rfl,n1,-⟩;have N1:=Pe (n1.on (Below.refl _ _).drew);clear n1 C0;go_wp2_with fail;refine Jbf (S:=fun X=>X.cell? ⟨F,16,none⟩=some (.string (str lw))) _ 16 rfl Kl Kl Kl (Jbl 16 0) Kl (N1.out.cell Kd hlast) (fun _=>?_);have key:∀{Q:Exit->Act->World->Prop} {ops:Array Oper} {T:List Sk} {l:List Bool} {a:Act} {oi:Oper} (l':List Bool) (_:l.set 15 true=l') (_:Jbn T l=[15]) (_:ops[15]?=some oi) (_:oi.dst=some 23) (_:Region.wanted oi (yielded ops a.tmps)=true) (_:(execOp a.eval oi).run prog w1.drew=.ok (.enter 95 #[.pointer (some ⟨F,0,none⟩),.bool ok,.int .i64 8]) w1.drew) (_:Jbn T l'=[]) (_:∀w2,Nx F vs g W 0 (fe1 (fe1 0 (if(g.drop 0).length=4 then 0 else 1)) (if ok then 0 else 8)) w2->Q .normal (a.put (some 23) (.tuple #[])) w2),wpT prog .any ops Q (fun X=>X.cell? ⟨F,16,none⟩=some (.string (str lw))) T 1 l a w1.drew:=fun l' hl hr hi hd wi hrun hdone hQ =>
  Jb7 (i:=15) 23 l' hl hr hi hd wi hrun ((Jdu ok 8 0 _).ret N1.out) (fun u w2 hu=>⟨hu.2.cell Kd hlast,Jcl hdone (by rw[hu.1];exact hQ w2 (by rw[<-E.out];exact hu.2))⟩)
 by_cases hw:lw=wTr
 have q1:decide (lw=wTr)=true:=Pk hw;have ko:ok=true:=by rw[<-hok,q1];rfl
 refine Jbb (L:=[(0,8,pt F 0),(1,9,pt F 0),(2,10,pt F 0),(3,11,pt F 0),(4,12,pt F 0),(5,13,pt F 16),(6,14,.string (str lw)),(7,15,.bool true),(8,16,.bool true),(9,17,undef),(10,18,undef),(11,19,undef),(12,20,undef),(13,21,undef),(14,22,.bool true)]) (.p rfl rfl Kl (fun _=>Kl) (.p rfl rfl Kl (fun _=>Kl) (.p rfl rfl Kl (fun _=>Kl) (.p rfl rfl Kl (fun _=>Kl) (.p rfl rfl Kl (fun _=>Kl) (.p rfl rfl Kl (fun _=>Kl) (.cons rfl rfl (.inl ⟨Kl,fun _ h=>Wae⟩) (.cons rfl rfl (.inl ⟨Kl,fun _ _=>(J2o (x:=.tmp 14) (y:=.const (.string ⟨#[116,114,105,112]⟩)) lw wTr Kl Kl Kl rfl).trans (by rw[q1])⟩) (.p rfl rfl Kl (fun _=>Kl) (.cons rfl rfl (.inr ⟨Kl,rfl⟩) (.cons rfl rfl (.inr ⟨Kl,rfl⟩) (.cons rfl rfl (.inr ⟨Kl,rfl⟩) (.cons rfl rfl (.inr ⟨Kl,rfl⟩) (.cons rfl rfl (.inr ⟨Kl,rfl⟩) (.cons rfl rfl (.inl ⟨Kl,fun _ _=>Kl⟩) .nil))))))))))))))) [0,1,2,3,4,5,6,7,8,9,10,11,12,13,14] rfl rfl Kl (fun _ _ _ _ _ h=>h) (N1.out.cell Kd hlast) ?_;refine key _ rfl Kl rfl rfl rfl (by rw[ko];kernel_rfl) Kl ?_;rotate_left;have q1:decide (lw=wTr)=false:=Pj hw;obtain⟨q2,hq2⟩:=Pi (decide (lw=wCc));have ko:ok=q2:=by rw[<-hok,q1,hq2];rfl
 refine Jbb (L:=[(0,8,pt F 0),(1,9,pt F 0),(2,10,pt F 0),(3,11,pt F 0),(4,12,pt F 0),(5,13,pt F 16),(6,14,.string (str lw)),(7,15,.bool false),(8,16,.bool false),(9,17,pt F 0),(10,18,pt F 0),(11,19,pt F 16),(12,20,.string (str lw)),(13,21,.bool q2),(14,22,.bool q2)]) (.p rfl rfl Kl (fun _=>Kl) (.p rfl rfl Kl (fun _=>Kl) (.p rfl rfl Kl (fun _=>Kl) (.p rfl rfl Kl (fun _=>Kl) (.p rfl rfl Kl (fun _=>Kl) (.p rfl rfl Kl (fun _=>Kl) (.cons rfl rfl (.inl ⟨Kl,fun _ h=>Wae⟩) (.cons rfl rfl (.inl ⟨Kl,fun _ _=>(J2o (x:=.tmp 14) (y:=.const (.string ⟨#[116,114,105,112]⟩)) lw wTr Kl Kl Kl rfl).trans (by rw[q1])⟩) (.p rfl rfl Kl (fun _=>Kl) (.p rfl rfl Kl (fun _=>Kl) (.p rfl rfl Kl (fun _=>Kl) (.p rfl rfl Kl (fun _=>Kl) (.cons rfl rfl (.inl ⟨Kl,fun _ h=>Wae⟩) (.cons rfl rfl (.inl ⟨Kl,fun _ _=>(J2o (x:=.tmp 20) (y:=.const (.string ⟨#[99,97,108,108]⟩)) lw wCc Kl Kl Kl rfl).trans (by rw[hq2])⟩) (.cons rfl rfl (.inl ⟨Kl,fun _ _=>Kl⟩) .nil))))))))))))))) [0,1,2,3,4,5,6,7,8,9,10,11,12,13,14] rfl rfl Kl (fun _ _ _ _ _ h=>h) (N1.out.cell Kd hlast) ?_;refine key _ rfl Kl rfl rfl rfl (by rw[ko];kernel_rfl) Kl ?_;clear hq2;all_goals
  clear key q1 hw ko hok;intro w2 n2;have N2:=Pe (n2.on (Below.refl _ _).drew);clear n2;go_wp2_with fail;refine Jbf (S:=fun X=>X.cell? ⟨F,17,none⟩=some (.map (some B_st))) _ 19 rfl Kl Kl Kl (Jbl 19 0) Kl (N2.out.cell Kd X_st.cell) (fun _=>?_);refine Jbb (L:=[(0,24,pt F 0),(1,25,pt F 0),(2,26,pt F 0),(3,27,pt F 0),(4,28,pt F 0),(5,29,pt F 17),(6,30,.map (some B_st)),(8,32,pt F 0),(9,33,pt F 0),(10,34,pt F 0),(12,36,pt F 0),(13,37,pt F 0),(14,38,pt F 0)]) (.p rfl rfl Kl (fun _=>Kl) (.p rfl rfl Kl (fun _=>Kl) (.p rfl rfl Kl (fun _=>Kl) (.p rfl rfl Kl (fun _=>Kl) (.p rfl rfl Kl (fun _=>Kl) (.p rfl rfl Kl (fun _=>Kl) (.cons rfl rfl (.inl ⟨Kl,fun _ h=>Wae⟩) (.p rfl rfl Kl (fun _=>Kl) (.p rfl rfl Kl (fun _=>Kl) (.p rfl rfl Kl (fun _=>Kl) (.p rfl rfl Kl (fun _=>Kl) (.p rfl rfl Kl (fun _=>Kl) (.p rfl rfl Kl (fun _=>Kl) .nil))))))))))))) [0,1,2,3,4,5,6,8,9,10,12,13,14] rfl rfl Kl (fun _ _ _ _ _ h=>h) (N2.out.cell Kd X_st.cell) ?_;refine Jjs (j:=17) (dj:=2) (v:=fun X=>.pointer (some ⟨X.heap.size,0,none⟩)) (m:=fun X=>X.alloc (.cells #[.int .i64 0,.int .i64 0,.int .i64 0,.bool false,.bool false] 58 (0,0))) (L:=Lq W (.cells #[.int .i64 0,.int .i64 0,.int .i64 0,.bool false,.bool false] 58 (0,0))) (G:=Nx F vs g W 0 (fe1 (fe1 0 (if(g.drop 0).length=4 then 0 else 1)) (if ok then 0 else 8))) (I:=[7,11,15,16]) (.rd 31 (.int .i64 (fnd 9 i_st (g.getD 0 [])).1) rfl rfl Kd (fun _=>rfl) (fun _=>Kl) (fun _ _=>Kl) (Jdf B_st i_st (X_st.off H.st).1 (X_st.off H.st).2 0 _ (H.fld _)) (fun X h=>(h.cell Kd X_st.cell)) (.rd 35 (.int .i64 (F_.tim (g.getD 1 [])).1) rfl rfl Kd (fun _=>rfl) (fun _=>Kl) (fun _ _=>Kl) (Jip F_ 1 _ (fun w h=>FO.tim _ (H.fld _) w (H.low h))) (fun X h=>(h.cell Kd X_st.cell)) (.rd 39 (.int .i64 (F_.tim (g.getD 2 [])).1) rfl rfl Kd (fun _=>rfl) (fun _=>Kl) (fun _ _=>Kl) (Jip F_ 2 _ (fun w h=>FO.tim _ (H.fld _) w (H.low h))) (fun X h=>(h.cell Kd X_st.cell)) (.step 40 (.agg #[.int .i64 (fnd 9 i_st (g.getD 0 [])).1,.int .i64 (F_.tim (g.getD 1 [])).1,.int .i64 (F_.tim (g.getD 2 [])).1,.bool false,.bool false]) rfl rfl Kd (fun _=>rfl) (fun _=>Kl) (fun _ _=>Kl) (Nx.new _) (fun X h=>(h.cell Kd X_st.cell)) (.nil (Nx.new _) (fun X h=>(h.cell Kd X_st.cell))))))) rfl rfl (fun _=>rfl) (fun _ _=>Kl) rfl Kl N2.out ?_;rintro q w3 n3 ⟨b,rfl,hb0,hb1⟩;have hF:b≠F:=by have:=n3.2.1;omega
  refine Jdj (i:=18) _ rfl Kl rfl rfl rfl (Jat 58 (.tmp 2) (.tmp 40) Kl b #[.int .i64 (fnd 9 i_st (g.getD 0 [])).1,.int .i64 (F_.tim (g.getD 1 [])).1,.int .i64 (F_.tim (g.getD 2 [])).1,.bool false,.bool false] Kl Kl _ _ hb1 Kl Kl Kl) ((n3.off (Jek w3 b _) hb0 hF).cell Kd X_st.cell) ?_;refine Jcl Kl ?_;have n4:=n3.off (Jek w3 b #[.int .i64 (fnd 9 i_st (g.getD 0 [])).1,.int .i64 (F_.tim (g.getD 1 [])).1,.int .i64 (F_.tim (g.getD 2 [])).1,.bool false,.bool false]) hb0 hF;have y4:=setRow_heap w3 b _ #[.int .i64 (fnd 9 i_st (g.getD 0 [])).1,.int .i64 (F_.tim (g.getD 1 [])).1,.int .i64 (F_.tim (g.getD 2 [])).1,.bool false,.bool false] _ _ hb1;generalize w3.setRow b #[.int .i64 (fnd 9 i_st (g.getD 0 [])).1,.int .i64 (F_.tim (g.getD 1 [])).1,.int .i64 (F_.tim (g.getD 2 [])).1,.bool false,.bool false]=w4 at n4 y4 |-;have C4:=Pe (J6b (F:=F) (vs:=vs) (g:=g) (W0:=W) 3 _ w4 n4);obtain⟨p1,hp1⟩:=Pi (decide ((prm (g.getD 3 [])).1=1\/(prm (g.getD 3 [])).1=3));obtain⟨p2,hp2⟩:=Pi (decide (2<=(prm (g.getD 3 [])).1));rw[hp1,hp2] at C4;have HP1:=Pe hp1;have HP2:=Pe hp2;have Y4:=Pe y4;clear n3 hb1 n4 y4 N2 hp1 hp2;go_wp2_with fail;refine C4.out.mono ?_;rintro r w5 ⟨rfl,n5,s5⟩;have y5:=s5 _ _ hF Y4.out;have b3:w5.cell? ⟨b,3,none⟩=some (.bool false):=by rw[cell_of_row _ _ 3 _ _ _ y5];rfl
  have f3:=frozen_of_row w5 b 3 _ _ y5;have n6:=n5.off (Jbs w5 b 3 (.bool p1)) hb0 hF;have y6:=heap_setCell_same w5 b 3 _ _ (.bool p1) y5;obtain⟨w6,h6⟩:=Pi (w5.setCell ⟨b,3,none⟩ (.bool p1));rw[h6] at n6 y6;have b4:w6.cell? ⟨b,4,none⟩=some (.bool false):=by rw[cell_of_row _ _ 4 _ _ _ y6];rfl
  have f4:=frozen_of_row w6 b 4 _ _ y6;have n7:=n6.off (Jbs w6 b 4 (.bool p2)) hb0 hF;have y7:=heap_setCell_same w6 b 4 _ _ (.bool p2) y6;obtain⟨w7,h7⟩:=Pi (w6.setCell ⟨b,4,none⟩ (.bool p2));rw[h7] at n7 y7;have N7:Hid (Nx F vs g W 4 (e_cc F_ g i_st ok) w7):=Pe n7;have Y7:Hid (w7.heap[b]?=some (.cells (c_cc F_ g i_st) 58 (0,0))):=Pe (by show _=some (Obj.cells #[_,_,_,.bool (decide ((prm (g.getD 3 [])).1=1\/(prm (g.getD 3 [])).1=3)),.bool (decide (2<=(prm (g.getD 3 [])).1))] _ _);rw[HP1.out,HP2.out];exact y7);have HB0:=Pe hb0;have er:=N7.out.err.1;clear n5 s5 y5 n6 y6 n7 y7 C4 Y4 hb0 hF;by_cases he:e_cc F_ g i_st ok=0
  ·rw[he] at er
   have HE:=Pe he;have hk:ok=true:=by
    cases ok with
    | true=>rfl
    | false=>exact absurd he (by unfold e_cc;exact e_no _ _ _ _ _)
   obtain⟨l0,x,hlx,hrow,hfew⟩:=hl hk;obtain⟨vg,G7⟩:=H.up N7.out;have G8:=H.st.boxed G7 HB0.out Y7.out (c_cc F_ g i_st);rw[setRow_self w7 b _ _ _ Y7.out,he] at G8;clear N7 Y7 HB0 hl;subst hlx;obtain⟨A,c,rfl⟩:=tb.slice H.st;have hr4:=G8.row (Jba tb.row);obtain⟨gb,rfl⟩:∃gb,A=some ⟨gb,0,none⟩:=by
    rcases hr4.2 with⟨_,h0⟩ | ⟨gb,cap,cur,h0,_⟩
    ·simp at h0
    ·cases h0;exact⟨gb,rfl⟩
   have m6:=(G8.cell ((Jae Kd).trans tb.cell)).1;rw[Pq,List.length_singleton] at m6;have hn:=tb.few;rw[Pq,List.length_singleton] at hn;have HL0:Hid (tb=tb):=Pe rfl;obtain⟨n,hn0⟩:=Pi (l0.length);have HN0:=Pe hn0;rw[hn0] at m6 hn;have h1:(0:Int)<=(n:Int):=Ka;have h2:(n:Int)<(n:Int)+1:=Ka;have h3:n<n+1:=Ka;have h4:¬((n:Int)+1 - 1<0):=Ka;clear hn0;have G8:=Pe G8;go_wp2_with fail;go_quiet (fail);have B7:=Jab (Below.refl w7.heap.size w7) nq;generalize w7.drewN nq=w8 at B7 |-;obtain⟨w9,h9⟩:=Pi (w8.drew);have G9:=G8.out.on (W':=w9) (by rw[<-h9];exact B7.drew);have r4:=G9.row (Jba tb.row);have hvc:=Jww l0 x;rw[HN0.out] at hvc;have c4:=World.ownsRow.cells r4 (g:=gb) rfl _ _ hvc;rw[Addr.add_lit,Nat.zero_add] at c4;obtain⟨vc,hvx⟩:=Pi (x.2.2.2.2.1);rw[hvx] at c4 hrow;rw[HN0.out] at hrow;go_wp2_with fail;refine Jei (S:=fun X=>X.cell? ⟨gb,n*5+4,none⟩=some vc/\X.heap[b]?=some (.cells (c_cc F_ g i_st) 58 (0,0))) _ 11 10 rfl Kl Kl Kl (Jbl 11 0) Kl ?_;rw[h9];refine Jd2 (L:=[(0,69,pt gb (n*5)),(1,70,pt gb (n*5)),(2,71,pt gb (n*5)),(3,72,pt gb (n*5+4)),(4,73,vc),(5,74,.agg (c_cc F_ g i_st))]) rfl (.q (.q (.q (.q (.cons rfl rfl (.inl ⟨rfl,fun _ h=>Gy⟩) (.cons rfl rfl (.inl ⟨rfl,fun _ h=>by obtain⟨h0,hb⟩:=h;exact Jaz 58 (.tmp 2) Kl b Kl _ _ _ _ hb underlying58 rfl Kl⟩) .nil)))))) [0,1,2,3,4,5] rfl rfl Kl (fun _ _ _ _ _ h=>h) ⟨c4,G9.box_last⟩ ?_;obtain⟨w10,h10⟩:=Pi (w9.alloc (.cells (c_cc F_ g i_st) 58 (0,0)));have b10:Po w9 w10:=by rw[<-h10];exact(Below.refl _ _).alloc Ph _
   have G10:=G9.on b10;have y10:=heap_alloc_new w9 (.cells (c_cc F_ g i_st) 58 (0,0));rw[h10] at y10;have c10:=(b10.cell (p:=⟨gb,n*5+4,none⟩) ((World.ownsRow.lt r4 gb rfl).2)).trans c4;refine Jda (i:=6) (v:=.slice (some ⟨w9.heap.size,0,none⟩) 1 1) (w':=w10) 75 _ rfl Kl rfl rfl rfl (by rw[<-h10];kernel_rfl) ⟨c10,G10.box_last⟩ rfl ?_;obtain⟨v7,w11,hr7,o7,g7,p7⟩:=Jcj (enc:=cc) Jh0 Kd underlying54 J6q rfl Kd w10 54 w0.heap.size vc x.2.2.2.2.2 (x_cc F_ g i_st) (fun u hu=>by simp only[cc,List.mem_cons,List.not_mem_nil,or_false] at hu;rcases hu with rfl | rfl | rfl | rfl | rfl <;> rfl) (G10.row (Jba hrow)) _ _ y10 rfl G10.base.size Ka;have LN:(x.2.2.2.2.2++[x_cc F_ g i_st]).length=x.2.2.2.2.2.length+1:=Ke;have o7':w11.ownsRow w0.heap.size 58 5 v7 (x.2.2.2.2.2.length+1) (fl cc (x.2.2.2.2.2++[x_cc F_ g i_st])):=Wab;have G11:=G10.turn (t':=tRow w0.heap.size ⟨58,5,v7,x.2.2.2.2.2.length+1,fl cc (x.2.2.2.2.2++[x_cc F_ g i_st])⟩) (Jba hrow) g7 (tRow.at o7') p7;rw[List.set_append_left (h:=(Pm hrow).1)] at G11;have H4:(ts.set (28+n) (tRow w0.heap.size ⟨58,5,v7,x.2.2.2.2.2.length+1,fl cc (x.2.2.2.2.2++[x_cc F_ g i_st])⟩))[4]?=some (tRow w0.heap.size ⟨56,5,.slice (some ⟨gb,0,none⟩) (l0++[x]).length c,(l0++[x]).length,fl te (l0++[x])⟩):=(List.getElem?_set_ne Ka).trans tb.row;have r11:=G11.row (Jba H4);have c11:=World.ownsRow.cells r11 (g:=gb) rfl _ _ (by rw[<-hvx] at c4;exact hvc);rw[Addr.add_lit,Nat.zero_add,hvx] at c11;refine Jda (i:=7) (v:=v7) (w':=w11) 76 _ rfl Kl rfl rfl rfl (Ja9 (s:=.tmp 73) (x:=.tmp 75) (ST:=54) Kl Kl Kl hr7) ⟨c11,G11.box_last⟩ rfl ?_;refine Jh7 (L:=[(8,77,pt gb (n*5)),(9,78,pt gb (n*5+4))]) (.q (.q .nil)) [8,9] rfl rfl Kl ⟨c11,G11.box_last⟩ ?_;have f11:=World.ownsRow.frozenAt r11 (n*5+4);obtain⟨A7,c7,e7,-⟩:=o7.lst;rw[LN] at e7;subst e7;refine Jej (w':=w11.setCell ⟨gb,n*5+4,none⟩ (.slice A7 (x.2.2.2.2.2.length+1) c7)) _ rfl Kl rfl rfl rfl Wam ?_;refine Jhw Kl ?_;have s11:=(World.ownsRow.stored r11 (n*5+4) (.slice A7 (x.2.2.2.2.2.length+1) c7)).1;have hfl:=Qb3 l0 x (putV (.slice A7 (x.2.2.2.2.2.length+1) c7) (x_cc F_ g i_st) x) (.slice A7 (x.2.2.2.2.2.length+1) c7) rfl;rw[HN0.out] at hfl;rw[hfl] at s11;have G12:=G11.turn (t':=tRow w0.heap.size ⟨56,5,.slice (some ⟨gb,0,none⟩) (l0++[x]).length c,(l0++[x]).length,fl te (l0++[putV (.slice A7 (x.2.2.2.2.2.length+1) c7) (x_cc F_ g i_st) x])⟩) (Jba H4) (Jbs w11 gb (n*5+4) _) (tRow.at s11) (fun k hk=>.inl hk);rw[List.set_append_left (h:=(Pm H4).1)] at G12;have G13:=G12.less;rw[<-HN0.out] at G13;have GE:=Pe (ZY.out HE.out vg _ l0 x _ rfl G13);clear G13 G12 s11 hfl r11 c11 f11 G11 H4 o7' o7 g7 p7 hr7 LN c10 y10 G10 b10 h10 r4 c4 hvc G9 h9 B7 hrow;rw[HN0.out] at GE;generalize w11.setCell ⟨gb,n*5+4,none⟩ (.slice A7 (x.2.2.2.2.2.length+1) c7)=w12 at GE |-;go_wp2_with fail;go_end0;exact⟨rfl,GE.out⟩
  ·have g1:((e_cc F_ g i_st ok)==0)=false:=Jaa he
   obtain⟨vg,G7⟩:=H.up N7.out;have HE:=Pe (ZN.out he vg w7 G7);clear G7 N7 Y7 HB0 hl;generalize e_cc F_ g i_st ok=ee at er g1;exact Wap
open Go
theorem Jcp(l:List Int):err l=l.foldl fe1 0:=by
 have key:∀(l:List Int) (e:Int),l.foldl fe1 e=fe1 e (err l):=by
  intro l;induction l with
  | nil=>intro e;exact(Jc2 e).symm
  | cons x l ih =>
   intro e;rw[List.foldl_cons,ih];show fe1 (fe1 e x) (err l)=fe1 e (if x=0 then err l else x)
   by_cases he:e=0
   ·rw[Jnc he,Jnc he];unfold fe1;rfl
   ·rw[Jjv he,Jjv he,Jjv he]
 rw[key,Jnc rfl]
theorem Jdg(x:Int):fe1 1 x=1:=if_neg Kd
theorem J2p(x:Bs):x.length<=(Ja1 x).length:=by
 unfold Ja1;induction x with
 | nil=>exact Nat.le_refl _
 | cons c l ih=>rw[List.flatMap_cons,Pq,List.length_cons];have:=J8b c;omega
theorem Jqe(x:Bs):x.length<=(Jaj x).length:=by
 unfold Jaj;split
 ·exact Nat.le_refl _
 ·have:=J2p x
  exact Kb
theorem Jnf:∀(fs:List Bs),fs≠[]->(fs.map fun f=>f.length+1).sum<=(Jan fs).length+1
 | [],h=>absurd rfl h
 | [x],_=>by
  show x.length+1+0<=(Jaj x).length+1
  have:=Jqe x;omega
 | x::y::l,_=>by
  have ih:=Jnf (y::l) Ke;have e:Jan (x::y::l)=Jaj x++44::Jan (y::l):=rfl;rw[e,Pq,List.length_cons,List.map_cons,List.sum_cons];have:=Jqe x;omega
theorem Qb4{l:List Bs}{f:Bs}(h:f∈l):f.length+1<=(l.map fun f=>f.length+1).sum:=by
 induction l with
 | nil=>cases h
 | cons x l ih =>
  rw[List.map_cons,List.sum_cons];rcases List.mem_cons.1 h with rfl | h
  ·omega
  ·have:=ih h;omega
theorem J8t{x:Bs}(h:(splR x).2=0)(hx:x≠[]):x.length<=65536/\Jan (splR x).1=x/\(splR x).1≠[]/\(splR x).1.length<=64/\∀f∈(splR x).1,f.length<=x.length:=by
 unfold splR at h |-;by_cases h1:65536<x.length
 ·rw[if_pos h1] at h;cases h
 ·rw[if_neg h1,if_neg hx] at h |-
  obtain⟨e,n,l⟩:=Jk3 64 x (Ja2 64 x).1 (by rw[<-h]);refine⟨Ka,e,n,l,fun f hf=>?_⟩;have a:=Jnf _ n;have b:=Qb4 hf;rw[e] at a;omega
theorem Qel(F:Fm)(r:Rd)(x:Bs)(n:Int)(h:(oneR F r x n).1=0):(oneR F r x n).2.T.fr.length=r.T.fr.length\/((oneR F r x n).2.T.fr.length=r.T.fr.length+1/\13<=x.length):=by
 unfold oneR at h |-;by_cases hi:ign x=true
 ·rw[if_pos hi];exact .inl rfl
 ·rw[if_neg hi] at h |-
  by_cases hs:(splR x).2=0
  ·rw[if_neg (fun k=>k hs)] at h |-
   have hx:x≠[]:=fun e=>hi (by rw[e];rfl)
   obtain⟨-,hl,hn,-,-⟩:=J8t hs hx;generalize (splR x).1=f at *;unfold rcd at h |-;simp only at h |-;have hk:=Jhj (f.headD []);by_cases h12:kind (f.headD [])=12
   ·rw[if_pos h12] at h;exact absurd h Ke
   ·rw[if_neg h12] at h |-
    by_cases hc:f.length=cnts.getD (kind (f.headD [])) 0
    ·rw[if_neg (fun k=>k hc)] at h |-
     split at h
     ·exact absurd h Ke
     ·split at h
      ·exact absurd h Ke
      ·next h10 h11 =>
       rw[if_neg h10,if_neg h11];have A:=(Jre F r.T (kind (f.headD [])) Ka f hc).1 5 Ka;have A:(addR F r.T (kind (f.headD [])) f).2.fr.length=r.T.fr.length+(if 5=kind (f.headD []) then 1 else 0):=A;by_cases h5:5=kind (f.headD [])
       ·right
        refine⟨by show(addR F r.T _ f).2.fr.length=_;rw[A,if_pos h5],?_⟩;rw[<-h5] at hc;obtain⟨a,b,c,d,e,rfl⟩:=five hc;have ha:a=wFr:=by
         have q:kind a=5:=h5.symm;unfold kind at q;have hlt:kinds.findIdx (fun x=>decide (x=a))<kinds.length:=by rw[q];decide
         have g:=List.findIdx_getElem (w:=hlt);simp only[decide_eq_true_eq] at g;rw[<-g];simp only[q];rfl
        have:=Jnf [a,b,c,d,e] Ke;rw[hl,ha] at this;simp[wFr] at this;omega
       ·left
        show(addR F r.T _ f).2.fr.length=_
        rw[A,if_neg h5];rfl
    ·rw[if_pos hc] at h;exact absurd h Ke
  ·rw[if_pos hs] at h;exact absurd h hs
theorem Qem(F:Fm):∀(B:List Bs) (n:Int) (r:Rd),(goR F B n r).2.1=0->(goR F B n r).2.2.T.fr.length*14<=r.T.fr.length*14+(Jax B).length
 | [],_,_,_=>by simp[goR]
 | x::B,n,r,h=>by
  unfold goR at h |-;by_cases h0:(oneR F r x n).1=0
  ·rw[if_neg (fun k=>k h0)] at h |-
   have ih:=Qem F B (n+1) _ h;have e:Jax (x::B)=x++[10]++Jax B:=rfl;rw[e,Pq,Pq];rcases Qel F r x n h0 with q | ⟨q,l⟩
   ·rw[q] at ih;exact Kb
   ·rw[q] at ih;exact Kb
  ·rw[if_pos h0] at h;exact absurd h h0
def tyT:Nat->TypeId×Nat
 | 0=>(112,4)
 | 1=>(114,3)
 | 2=>(61,10)
 | 3=>(116,3)
 | 4=>(56,5)
 | 5=>(118,4)
 | 6=>(120,2)
 | 7=>(122,3)
 | 8=>(63,4)
 | 9=>(65,6)
 | _=>(112,0)
def xsT(U:Tt):Nat->List Value
 | 0=>fl S13.se U.st
 | 1=>fl S15.re U.ro
 | 2=>fl S14.ce U.ca
 | 3=>fl S14.xe U.ex
 | 4=>fl te U.tr
 | 5=>fl fe U.fr
 | 6=>fl S19.hh U.th
 | 7=>fl S19.gg U.gu
 | 8=>fl S20.fe U.pa
 | 9=>fl S21.pdE U.pr
 | _=>[]
def idsT(U:Tt):Nat->List Bs
 | 0=>Jbi U
 | 1=>Jct U
 | 2=>Jb5 U
 | _=>Jbr U
def rowC(w0:World)(x:Tp):Tng:=tRow w0.heap.size ⟨58,5,x.2.2.2.2.1,x.2.2.2.2.2.length,fl cc x.2.2.2.2.2⟩
structure Pt (w0:World) (vs:List Value) (ts:List Tng) (T U:Tt) (N:Nat):Prop where
 cop:CopT T U
 tabs:∀i,i<10->∃v,Tbl w0 vs ts i (tyT i).1 (tyT i).2 v (lenP U i) (xsT U i)
 di:vs[12]?=some (.int .i64 U.di)
 wi:vs[13]?=some (.int .i64 U.wi)
 cp:vs[14]?=some (.int .i64 U.cp)
 ix:∀j,j<4->∃B,Ix vs ts j B (idsT U j)
 calls:∀(j:Nat) (x:Tp),U.tr[j]?=some x->ts[28+j]?=some (rowC w0 x)
 tlen:ts.length=28+U.tr.length
 vlen:vs.length=21
 few:∀i,i<10->lenP U i<=N
 fewc:∀x∈U.tr,x.2.2.2.2.2.length<=N
section
variable {w0:World} {vs vs':List Value} {ts ts':List Tng} {T T' U U':Tt} {N:Nat}
variable {k i:Nat} {v u:Value} {e:Int}
theorem Tbl.keep{t:TypeId}{n:Nat}{xs:List Value}(h:Tbl w0 vs ts i t k v n xs)(h1:vs'[2+i]?=vs[2+i]?)(h2:ts'[i]?=ts[i]?):Tbl w0 vs' ts' i t k v n xs:=⟨h1.trans h.cell,h2.trans h.row,h.few⟩
theorem Ix.keep{j B:Nat}{ids:List Bs}(h:Ix vs ts j B ids)(h1:vs'[17+j]?=vs[17+j]?)(h2:ts'[11+j]?=ts[11+j]?):Ix vs' ts' j B ids:=⟨h1.trans h.cell,h2.trans h.map⟩
theorem Pt.upd(h:Pt w0 vs ts T U N)(hN:N+1<=1000000)(k:Nat)(hk:k<10)(cop:CopT T' U')(v:Value)(vlen:vs'.length=21)(hv:∀i,2<=i->i≠2+k->vs'[i]?=vs[i]?)(hvk:vs'[2+k]?=some v)(tlen:ts'.length=ts.length)
  (htk:ts'[k]?=some (tRow w0.heap.size ⟨(tyT k).1,(tyT k).2,v,lenP U' k,xsT U' k⟩)) (ht:∀i,i<10->i≠k->ts'[i]?=ts[i]?) (htc:∀i,28<=i->ts'[i]?=ts[i]?) (ix:∀j,j<4->∃B,Ix vs' ts' j B (idsT U' j))
  (hlen:lenP U' k=lenP U k+1) (hs:∀i,i<10->i≠k->lenP U' i=lenP U i/\xsT U' i=xsT U i) (htr:U'.tr=U.tr) (hdi:U'.di=U.di/\U'.wi=U.wi/\U'.cp=U.cp):Pt w0 vs' ts' T' U' (N+1) where
 cop:=cop
 tabs:=fun i hi=>by
  by_cases e:i=k
  ·subst e
   exact⟨v,hvk,htk,by rw[hlen];have:=h.few i hi;omega⟩
  ·obtain⟨u,hu⟩:=h.tabs i hi
   obtain⟨s1,s2⟩:=hs i hi e;rw[s1,s2];exact⟨u,hu.keep (hv _ Ka Ka) (ht i hi e)⟩
 di:=by rw[hv 12 Ka Ka,hdi.1];exact h.di
 wi:=by rw[hv 13 Ka Ka,hdi.2.1];exact h.wi
 cp:=by rw[hv 14 Ka Ka,hdi.2.2];exact h.cp
 ix:=ix
 calls:=fun j x hx=>by rw[htc _ Ka];exact h.calls j x (by rw[<-htr];exact hx)
 tlen:=by rw[tlen,htr];exact h.tlen
 vlen:=vlen
 few:=fun i hi=>by
  by_cases e:i=k
  ·subst e;rw[hlen];have:=h.few i hi;omega
  ·rw[(hs i hi e).1];have:=h.few i hi;omega
 fewc:=fun x hx=>Nat.le_succ_of_le (h.fewc x (by rw[<-htr];exact hx))
theorem Jbk(h:2<=i)(hk:i≠2+k):((set2 vs v e).set (2+k) u)[i]?=vs[i]?:=by rw[List.getElem?_set,if_neg (fun q=>hk q.symm),Jae h]
theorem Jd7(h:vs.length=21)(hk:2+k<21):((set2 vs v e).set (2+k) u)[2+k]?=some u:=by
 rw[List.getElem?_set,if_pos rfl,if_pos (by unfold set2;simp only[List.length_set];omega)]
theorem Jcr(h:vs.length=21):((set2 vs v e).set (2+k) u).length=21:=by unfold set2;simp only[List.length_set];exact h
theorem Jfv(h:vs.length=21):((set2 vs v e).set (2+k) u)[1]?=some (.int .i64 e):=by
 rw[List.getElem?_set,if_neg Ka];unfold set2;rw[List.getElem?_set,if_pos rfl,if_pos Wao]
theorem Jcm{t:Tng}(h:k<ts.length):(ts.set k t)[k]?=some t:=by rw[List.getElem?_set,if_pos rfl,if_pos h]
theorem Jao{t:Tng}(h:i≠k):(ts.set k t)[i]?=ts[i]?:=by rw[List.getElem?_set,if_neg (fun q=>h q.symm)]
end
structure Left (vs vs':List Value) (ts ts':List Tng):Prop where
 c15:vs'[15]?=vs[15]?
 c16:vs'[16]?=vs[16]?
 t10:ts'[10]?=ts[10]?
 tl:∀i,15<=i->i<28->ts'[i]?=ts[i]?
def AdP(w0:World)(F:Nat)(vs:List Value)(ts:List Tng)(E:Int)(T':Tt)(N:Nat)(w':World):Prop:=∃vs' ts',Gst w0 F 80 vs' ts' w'/\vs'[1]?=some (.int .i64 E)/\vs'.length=21/\Left vs vs' ts ts'/\(E=0->∃U',Pt w0 vs' ts' T' U' (N+1))
section
variable {w0 W:World} {F:Nat} {vs:List Value} {ts:List Tng} {g:List Bs} {T U:Tt} {N:Nat}
theorem Jdv(h:CopT T U):Jbi U=Jbi T/\Jct U=Jct T/\Jb5 U=Jb5 T/\Jbr U=Jbr T:=by
 refine⟨by unfold Jbi;rw[h.st],by unfold Jct;rw[h.ro],by unfold Jb5;rw[h.ca],?_⟩;have e:∀l:List Tp,l.map (fun x=>x.1)=(l.map noV).map (fun x=>x.1):=fun l=>by rw[List.map_map];rfl
 unfold Jbr;rw[e,e,h.tr]
theorem ee_st(F_:Fm)(T:Tt)(w:Bs)(g:List Bs):e_st F_ g=if(w::g).length=5 then(addR F_ T 0 (w::g)).1 else 1:=by
 by_cases h:(w::g).length=5
 ·rw[if_pos h]
  obtain⟨a,b,c,d,e,q⟩:=five h;cases q;show _=err _
  rw[Jcp];rfl
 ·rw[if_neg h]
  have h':¬(g.drop 0).length=4:=Kt;unfold e_st;exact Wak
theorem Qen(F_:Fm)(H:Rec w0 F vs ts g W)(FO:Fo F_ w0)(P:Pt w0 vs ts T U N)(hN:N+1<=1000000)(w:Bs):
  Calls prog 83 #[.pointer (some ⟨F,0,none⟩)] W fun r w'=>r=.returned (.tuple #[])/\AdP w0 F vs ts (if(w::g).length=5 then(addR F_ T 0 (w::g)).1 else 1) (addR F_ T 0 (w::g)).2 N w':=by
 obtain⟨v0,tb⟩:=P.tabs 0 Ka;obtain⟨i0,i1,i2,i3⟩:=Jdv P.cop;obtain⟨B,ixx⟩:=P.ix 0 Ka;have hl:ts.length=28+U.tr.length:=P.tlen;refine(ad_st F_ H FO (l:=U.st) tb ixx).mono fun r w' h=>⟨h.1,?_⟩
 obtain⟨v',v,G⟩:=h.2;refine⟨_,_,G,by rw[<-ee_st];exact Jfv (k:=0) P.vlen,Jcr (k:=0) P.vlen,⟨Jbk (k:=0) Ka Ka,Jbk (k:=0) Ka Ka,(Jao Kd).trans (Jao Kd),fun i h1 h2=>(Jao Ka).trans (Jao Ka)⟩,fun hE=>?_⟩;have hc:(w::g).length=5:=Decidable.byContradiction fun q=>Waj
 have eT:(addR F_ T 0 (w::g)).2={ T with st:=T.st++[x_st F_ g] }:=by
  obtain⟨a,b,c,d,e,q⟩:=five hc;cases q;rfl
 rw[eT];refine⟨{ U with st:=U.st++[x_st F_ g] },P.upd hN 0 Ka ⟨by show U.st++_=T.st++_;rw[P.cop.st],P.cop.ro,P.cop.ca,P.cop.ex,P.cop.tr,P.cop.fr,P.cop.th,P.cop.gu,P.cop.pa,P.cop.pr,P.cop.di,P.cop.wi,P.cop.cp⟩ v (Jcr (k:=0) P.vlen) (fun i h1 h2=>Jbk (k:=0) h1 h2) (Jd7 (k:=0) P.vlen Ka) Wal ?_ (fun i h1 h2=>?_) (fun i h1=>?_) (fun j hj=>?_) (by show(U.st++[_]).length=_;rw[Pq];rfl) (fun i h1 h2=>?_) rfl ⟨rfl,rfl,rfl⟩⟩
 ·have e:lenP { U with st:=U.st++[x_st F_ g] } 0=U.st.length+1:=by show(U.st++[_]).length=_;rw[Pq];rfl
  exact Wan
 ·rw[Jao h2];exact Jao Ka
 ·rw[Jao Ka];exact Jao Ka
 ·by_cases e:j=0
  ·subst e
   refine⟨B,(Jbk (k:=0) Ka Ka).trans ixx.cell,?_⟩;rw[Jao Ka];have e2:idsT { U with st:=U.st++[x_st F_ g] } 0=(U.st.map fun x=>x.1)++[g.getD 0 []]:=by show(U.st++[_]).map _=_;rw[List.map_append];rfl
   rw[e2];exact Jcm Ka
  ·obtain⟨B',hB⟩:=P.ix j hj
   have e2:idsT { U with st:=U.st++[x_st F_ g] } j=idsT U j:=by match j,hj with | 0,_ | 1,_ | 2,_ | 3,_=>first | rfl | exact absurd rfl e
   rw[e2];exact⟨B',hB.keep (Jbk (k:=0) Ka Ka) ((Jao Ka).trans (Jao Ka))⟩
 ·match i,h1 with
  | 0,_ | 1,_ | 2,_ | 3,_ | 4,_ | 5,_ | 6,_ | 7,_ | 8,_ | 9,_=>first | exact⟨rfl,rfl⟩ | exact absurd rfl h2
  | i+10,h1=>omega
theorem ee_ro(F_:Fm)(T:Tt)(w:Bs)(g:List Bs):e_ro g=if(w::g).length=4 then(addR F_ T 1 (w::g)).1 else 1:=by
 by_cases h:(w::g).length=4
 ·rw[if_pos h]
  obtain⟨a,b,c,d,q⟩:=four h;cases q;show _=err _
  rw[Jcp];rfl
 ·rw[if_neg h]
  have h':¬(g.drop 0).length=3:=Kt;unfold e_ro;exact Wak
theorem Qeo(F_:Fm)(H:Rec w0 F vs ts g W)(FO:Fo F_ w0)(P:Pt w0 vs ts T U N)(hN:N+1<=1000000)(w:Bs):
  Calls prog 84 #[.pointer (some ⟨F,0,none⟩)] W fun r w'=>r=.returned (.tuple #[])/\AdP w0 F vs ts (if(w::g).length=4 then(addR F_ T 1 (w::g)).1 else 1) (addR F_ T 1 (w::g)).2 N w':=by
 obtain⟨v0,tb⟩:=P.tabs 1 Ka;obtain⟨i0,i1,i2,i3⟩:=Jdv P.cop;obtain⟨B,ixx⟩:=P.ix 1 Ka;have hl:ts.length=28+U.tr.length:=P.tlen;refine(ad_ro F_ H FO (l:=U.ro) tb ixx).mono fun r w' h=>⟨h.1,?_⟩
 obtain⟨v',v,G⟩:=h.2;refine⟨_,_,G,by rw[<-ee_ro];exact Jfv (k:=1) P.vlen,Jcr (k:=1) P.vlen,⟨Jbk (k:=1) Ka Ka,Jbk (k:=1) Ka Ka,(Jao Kd).trans (Jao Kd),fun i h1 h2=>(Jao Ka).trans (Jao Ka)⟩,fun hE=>?_⟩;have hc:(w::g).length=4:=Decidable.byContradiction fun q=>Waj
 have eT:(addR F_ T 1 (w::g)).2={ T with ro:=T.ro++[x_ro g] }:=by
  obtain⟨a,b,c,d,q⟩:=four hc;cases q;rfl
 rw[eT];refine⟨{ U with ro:=U.ro++[x_ro g] },P.upd hN 1 Ka ⟨P.cop.st,by show U.ro++_=T.ro++_;rw[P.cop.ro],P.cop.ca,P.cop.ex,P.cop.tr,P.cop.fr,P.cop.th,P.cop.gu,P.cop.pa,P.cop.pr,P.cop.di,P.cop.wi,P.cop.cp⟩ v (Jcr (k:=1) P.vlen) (fun i h1 h2=>Jbk (k:=1) h1 h2) (Jd7 (k:=1) P.vlen Ka) Wal ?_ (fun i h1 h2=>?_) (fun i h1=>?_) (fun j hj=>?_) (by show(U.ro++[_]).length=_;rw[Pq];rfl) (fun i h1 h2=>?_) rfl ⟨rfl,rfl,rfl⟩⟩
 ·have e:lenP { U with ro:=U.ro++[x_ro g] } 1=U.ro.length+1:=by show(U.ro++[_]).length=_;rw[Pq];rfl
  exact Wan
 ·rw[Jao h2];exact Jao Ka
 ·rw[Jao Ka];exact Jao Ka
 ·by_cases e:j=1
  ·subst e
   refine⟨B,(Jbk (k:=1) Ka Ka).trans ixx.cell,?_⟩;rw[Jao Ka];have e2:idsT { U with ro:=U.ro++[x_ro g] } 1=(U.ro.map fun x=>x.1)++[g.getD 0 []]:=by show(U.ro++[_]).map _=_;rw[List.map_append];rfl
   rw[e2];exact Jcm Ka
  ·obtain⟨B',hB⟩:=P.ix j hj
   have e2:idsT { U with ro:=U.ro++[x_ro g] } j=idsT U j:=by match j,hj with | 0,_ | 1,_ | 2,_ | 3,_=>first | rfl | exact absurd rfl e
   rw[e2];exact⟨B',hB.keep (Jbk (k:=1) Ka Ka) ((Jao Ka).trans (Jao Ka))⟩
 ·match i,h1 with
  | 0,_ | 1,_ | 2,_ | 3,_ | 4,_ | 5,_ | 6,_ | 7,_ | 8,_ | 9,_=>first | exact⟨rfl,rfl⟩ | exact absurd rfl h2
  | i+10,h1=>omega
theorem ee_ca(F_:Fm)(T:Tt)(w:Bs)(g:List Bs):e_ca F_ g=if(w::g).length=5 then(addR F_ T 2 (w::g)).1 else 1:=by
 by_cases h:(w::g).length=5
 ·rw[if_pos h]
  obtain⟨a,b,c,d,e,q⟩:=five h;cases q;show _=err _
  rw[Jcp];rfl
 ·rw[if_neg h]
  have h':¬(g.drop 0).length=4:=Kt;unfold e_ca;exact Wak
theorem Qep(F_:Fm)(H:Rec w0 F vs ts g W)(FO:Fo F_ w0)(P:Pt w0 vs ts T U N)(hN:N+1<=1000000)(w:Bs):
  Calls prog 85 #[.pointer (some ⟨F,0,none⟩)] W fun r w'=>r=.returned (.tuple #[])/\AdP w0 F vs ts (if(w::g).length=5 then(addR F_ T 2 (w::g)).1 else 1) (addR F_ T 2 (w::g)).2 N w':=by
 obtain⟨v0,tb⟩:=P.tabs 2 Ka;obtain⟨i0,i1,i2,i3⟩:=Jdv P.cop;obtain⟨B,ixx⟩:=P.ix 2 Ka;have hl:ts.length=28+U.tr.length:=P.tlen;refine(ad_ca F_ H FO (l:=U.ca) tb ixx).mono fun r w' h=>⟨h.1,?_⟩
 obtain⟨v',v,G⟩:=h.2;refine⟨_,_,G,by rw[<-ee_ca];exact Jfv (k:=2) P.vlen,Jcr (k:=2) P.vlen,⟨Jbk (k:=2) Ka Ka,Jbk (k:=2) Ka Ka,(Jao Kd).trans (Jao Kd),fun i h1 h2=>(Jao Ka).trans (Jao Ka)⟩,fun hE=>?_⟩;have hc:(w::g).length=5:=Decidable.byContradiction fun q=>Waj
 have eT:(addR F_ T 2 (w::g)).2={ T with ca:=T.ca++[x_ca F_ g] }:=by
  obtain⟨a,b,c,d,e,q⟩:=five hc;cases q;rfl
 rw[eT];refine⟨{ U with ca:=U.ca++[x_ca F_ g] },P.upd hN 2 Ka ⟨P.cop.st,P.cop.ro,by show U.ca++_=T.ca++_;rw[P.cop.ca],P.cop.ex,P.cop.tr,P.cop.fr,P.cop.th,P.cop.gu,P.cop.pa,P.cop.pr,P.cop.di,P.cop.wi,P.cop.cp⟩ v (Jcr (k:=2) P.vlen) (fun i h1 h2=>Jbk (k:=2) h1 h2) (Jd7 (k:=2) P.vlen Ka) Wal ?_ (fun i h1 h2=>?_) (fun i h1=>?_) (fun j hj=>?_) (by show(U.ca++[_]).length=_;rw[Pq];rfl) (fun i h1 h2=>?_) rfl ⟨rfl,rfl,rfl⟩⟩
 ·have e:lenP { U with ca:=U.ca++[x_ca F_ g] } 2=U.ca.length+1:=by show(U.ca++[_]).length=_;rw[Pq];rfl
  exact Wan
 ·rw[Jao h2];exact Jao Ka
 ·rw[Jao Ka];exact Jao Ka
 ·by_cases e:j=2
  ·subst e
   refine⟨B,(Jbk (k:=2) Ka Ka).trans ixx.cell,?_⟩;rw[Jao Ka];have e2:idsT { U with ca:=U.ca++[x_ca F_ g] } 2=(U.ca.map fun x=>x.1)++[g.getD 0 []]:=by show(U.ca++[_]).map _=_;rw[List.map_append];rfl
   rw[e2];exact Jcm Ka
  ·obtain⟨B',hB⟩:=P.ix j hj
   have e2:idsT { U with ca:=U.ca++[x_ca F_ g] } j=idsT U j:=by match j,hj with | 0,_ | 1,_ | 2,_ | 3,_=>first | rfl | exact absurd rfl e
   rw[e2];exact⟨B',hB.keep (Jbk (k:=2) Ka Ka) ((Jao Ka).trans (Jao Ka))⟩
 ·match i,h1 with
  | 0,_ | 1,_ | 2,_ | 3,_ | 4,_ | 5,_ | 6,_ | 7,_ | 8,_ | 9,_=>first | exact⟨rfl,rfl⟩ | exact absurd rfl h2
  | i+10,h1=>omega
theorem ee_ex(F_:Fm)(T:Tt)(w:Bs)(g:List Bs):e_ex F_ g (Jb5 T)=if(w::g).length=4 then(addR F_ T 3 (w::g)).1 else 1:=by
 by_cases h:(w::g).length=4
 ·rw[if_pos h]
  obtain⟨a,b,c,d,q⟩:=four h;cases q;show _=err _
  rw[Jcp];rfl
 ·rw[if_neg h]
  have h':¬(g.drop 0).length=3:=Kt;unfold e_ex;exact Wak
theorem Qeq(F_:Fm)(H:Rec w0 F vs ts g W)(FO:Fo F_ w0)(P:Pt w0 vs ts T U N)(hN:N+1<=1000000)(w:Bs):
  Calls prog 86 #[.pointer (some ⟨F,0,none⟩)] W fun r w'=>r=.returned (.tuple #[])/\AdP w0 F vs ts (if(w::g).length=4 then(addR F_ T 3 (w::g)).1 else 1) (addR F_ T 3 (w::g)).2 N w':=by
 obtain⟨v0,tb⟩:=P.tabs 3 Ka;obtain⟨i0,i1,i2,i3⟩:=Jdv P.cop;obtain⟨Bca,X_ca⟩:=P.ix 2 Ka;rw[show idsT U 2=Jb5 T from i2] at X_ca;have hl:ts.length=28+U.tr.length:=P.tlen;refine(ad_ex F_ H FO (l:=U.ex) tb X_ca).mono fun r w' h=>⟨h.1,?_⟩
 obtain⟨v',v,G⟩:=h.2;refine⟨_,_,G,by rw[<-ee_ex];exact Jfv (k:=3) P.vlen,Jcr (k:=3) P.vlen,⟨Jbk (k:=3) Ka Ka,Jbk (k:=3) Ka Ka,(Jao Kd),fun i h1 h2=>(Jao Ka)⟩,fun hE=>?_⟩;have hc:(w::g).length=4:=Decidable.byContradiction fun q=>Waj
 have eT:(addR F_ T 3 (w::g)).2={ T with ex:=T.ex++[x_ex F_ g (Jb5 T)] }:=by
  obtain⟨a,b,c,d,q⟩:=four hc;cases q;rfl
 rw[eT];refine⟨{ U with ex:=U.ex++[x_ex F_ g (Jb5 T)] },P.upd hN 3 Ka ⟨P.cop.st,P.cop.ro,P.cop.ca,by show U.ex++_=T.ex++_;rw[P.cop.ex],P.cop.tr,P.cop.fr,P.cop.th,P.cop.gu,P.cop.pa,P.cop.pr,P.cop.di,P.cop.wi,P.cop.cp⟩ v (Jcr (k:=3) P.vlen) (fun i h1 h2=>Jbk (k:=3) h1 h2) (Jd7 (k:=3) P.vlen Ka) Wal ?_ (fun i h1 h2=>?_) (fun i h1=>?_) (fun j hj=>?_) (by show(U.ex++[_]).length=_;rw[Pq];rfl) (fun i h1 h2=>?_) rfl ⟨rfl,rfl,rfl⟩⟩
 ·have e:lenP { U with ex:=U.ex++[x_ex F_ g (Jb5 T)] } 3=U.ex.length+1:=by show(U.ex++[_]).length=_;rw[Pq];rfl
  exact Waq
 ·rw[Jao h2]
 ·rw[Jao Ka]
 ·obtain⟨B',hB⟩:=P.ix j hj
  have e2:idsT { U with ex:=U.ex++[x_ex F_ g (Jb5 T)] } j=idsT U j:=by match j,hj with | 0,_ | 1,_ | 2,_ | 3,_=>rfl
  rw[e2];exact⟨B',hB.keep (Jbk (k:=3) Ka Ka) (Jao Ka)⟩
 ·match i,h1 with
  | 0,_ | 1,_ | 2,_ | 3,_ | 4,_ | 5,_ | 6,_ | 7,_ | 8,_ | 9,_=>first | exact⟨rfl,rfl⟩ | exact absurd rfl h2
  | i+10,h1=>omega
theorem ee_fr(F_:Fm)(T:Tt)(w:Bs)(g:List Bs):e_fr F_ g (Jbr T)=if(w::g).length=5 then(addR F_ T 5 (w::g)).1 else 1:=by
 by_cases h:(w::g).length=5
 ·rw[if_pos h]
  obtain⟨a,b,c,d,e,q⟩:=five h;cases q;show _=err _
  rw[Jcp];rfl
 ·rw[if_neg h]
  have h':¬(g.drop 0).length=4:=Kt;unfold e_fr;exact Wak
theorem Qer(F_:Fm)(H:Rec w0 F vs ts g W)(FO:Fo F_ w0)(P:Pt w0 vs ts T U N)(hN:N+1<=1000000)(w:Bs):
  Calls prog 89 #[.pointer (some ⟨F,0,none⟩)] W fun r w'=>r=.returned (.tuple #[])/\AdP w0 F vs ts (if(w::g).length=5 then(addR F_ T 5 (w::g)).1 else 1) (addR F_ T 5 (w::g)).2 N w':=by
 obtain⟨v0,tb⟩:=P.tabs 5 Ka;obtain⟨i0,i1,i2,i3⟩:=Jdv P.cop;obtain⟨Btr,X_tr⟩:=P.ix 3 Ka;rw[show idsT U 3=Jbr T from i3] at X_tr;have hl:ts.length=28+U.tr.length:=P.tlen;refine(ad_fr F_ H FO (l:=U.fr) tb X_tr).mono fun r w' h=>⟨h.1,?_⟩
 obtain⟨v',v,G⟩:=h.2;refine⟨_,_,G,by rw[<-ee_fr];exact Jfv (k:=5) P.vlen,Jcr (k:=5) P.vlen,⟨Jbk (k:=5) Ka Ka,Jbk (k:=5) Ka Ka,(Jao Kd),fun i h1 h2=>(Jao Ka)⟩,fun hE=>?_⟩;have hc:(w::g).length=5:=Decidable.byContradiction fun q=>Waj
 have eT:(addR F_ T 5 (w::g)).2={ T with fr:=T.fr++[x_fr F_ g (Jbr T)] }:=by
  obtain⟨a,b,c,d,e,q⟩:=five hc;cases q;rfl
 rw[eT];refine⟨{ U with fr:=U.fr++[x_fr F_ g (Jbr T)] },P.upd hN 5 Ka ⟨P.cop.st,P.cop.ro,P.cop.ca,P.cop.ex,P.cop.tr,by show U.fr++_=T.fr++_;rw[P.cop.fr],P.cop.th,P.cop.gu,P.cop.pa,P.cop.pr,P.cop.di,P.cop.wi,P.cop.cp⟩ v (Jcr (k:=5) P.vlen) (fun i h1 h2=>Jbk (k:=5) h1 h2) (Jd7 (k:=5) P.vlen Ka) Wal ?_ (fun i h1 h2=>?_) (fun i h1=>?_) (fun j hj=>?_) (by show(U.fr++[_]).length=_;rw[Pq];rfl) (fun i h1 h2=>?_) rfl ⟨rfl,rfl,rfl⟩⟩
 ·have e:lenP { U with fr:=U.fr++[x_fr F_ g (Jbr T)] } 5=U.fr.length+1:=by show(U.fr++[_]).length=_;rw[Pq];rfl
  exact Waq
 ·rw[Jao h2]
 ·rw[Jao Ka]
 ·obtain⟨B',hB⟩:=P.ix j hj
  have e2:idsT { U with fr:=U.fr++[x_fr F_ g (Jbr T)] } j=idsT U j:=by match j,hj with | 0,_ | 1,_ | 2,_ | 3,_=>rfl
  rw[e2];exact⟨B',hB.keep (Jbk (k:=5) Ka Ka) (Jao Ka)⟩
 ·match i,h1 with
  | 0,_ | 1,_ | 2,_ | 3,_ | 4,_ | 5,_ | 6,_ | 7,_ | 8,_ | 9,_=>first | exact⟨rfl,rfl⟩ | exact absurd rfl h2
  | i+10,h1=>omega
theorem ee_th(F_:Fm)(T:Tt)(w:Bs)(g:List Bs):e_th g (Jbr T)=if(w::g).length=3 then(addR F_ T 6 (w::g)).1 else 1:=by
 by_cases h:(w::g).length=3
 ·rw[if_pos h]
  obtain⟨a,b,c,q⟩:=Qak h;cases q;show _=err _
  rw[Jcp];rfl
 ·rw[if_neg h]
  have h':¬(g.drop 0).length=2:=Kt;unfold e_th;exact Wak
theorem Qes(F_:Fm)(H:Rec w0 F vs ts g W)(P:Pt w0 vs ts T U N)(hN:N+1<=1000000)(w:Bs):
  Calls prog 90 #[.pointer (some ⟨F,0,none⟩)] W fun r w'=>r=.returned (.tuple #[])/\AdP w0 F vs ts (if(w::g).length=3 then(addR F_ T 6 (w::g)).1 else 1) (addR F_ T 6 (w::g)).2 N w':=by
 obtain⟨v0,tb⟩:=P.tabs 6 Ka;obtain⟨i0,i1,i2,i3⟩:=Jdv P.cop;obtain⟨Btr,X_tr⟩:=P.ix 3 Ka;rw[show idsT U 3=Jbr T from i3] at X_tr;have hl:ts.length=28+U.tr.length:=P.tlen;refine(ad_th H (l:=U.th) tb X_tr).mono fun r w' h=>⟨h.1,?_⟩
 obtain⟨v',v,G⟩:=h.2;refine⟨_,_,G,by rw[<-ee_th];exact Jfv (k:=6) P.vlen,Jcr (k:=6) P.vlen,⟨Jbk (k:=6) Ka Ka,Jbk (k:=6) Ka Ka,(Jao Kd),fun i h1 h2=>(Jao Ka)⟩,fun hE=>?_⟩;have hc:(w::g).length=3:=Decidable.byContradiction fun q=>Waj
 have eT:(addR F_ T 6 (w::g)).2={ T with th:=T.th++[x_th g (Jbr T)] }:=by
  obtain⟨a,b,c,q⟩:=Qak hc;cases q;rfl
 rw[eT];refine⟨{ U with th:=U.th++[x_th g (Jbr T)] },P.upd hN 6 Ka ⟨P.cop.st,P.cop.ro,P.cop.ca,P.cop.ex,P.cop.tr,P.cop.fr,by show U.th++_=T.th++_;rw[P.cop.th],P.cop.gu,P.cop.pa,P.cop.pr,P.cop.di,P.cop.wi,P.cop.cp⟩ v (Jcr (k:=6) P.vlen) (fun i h1 h2=>Jbk (k:=6) h1 h2) (Jd7 (k:=6) P.vlen Ka) Wal ?_ (fun i h1 h2=>?_) (fun i h1=>?_) (fun j hj=>?_) (by show(U.th++[_]).length=_;rw[Pq];rfl) (fun i h1 h2=>?_) rfl ⟨rfl,rfl,rfl⟩⟩
 ·have e:lenP { U with th:=U.th++[x_th g (Jbr T)] } 6=U.th.length+1:=by show(U.th++[_]).length=_;rw[Pq];rfl
  exact Waq
 ·rw[Jao h2]
 ·rw[Jao Ka]
 ·obtain⟨B',hB⟩:=P.ix j hj
  have e2:idsT { U with th:=U.th++[x_th g (Jbr T)] } j=idsT U j:=by match j,hj with | 0,_ | 1,_ | 2,_ | 3,_=>rfl
  rw[e2];exact⟨B',hB.keep (Jbk (k:=6) Ka Ka) (Jao Ka)⟩
 ·match i,h1 with
  | 0,_ | 1,_ | 2,_ | 3,_ | 4,_ | 5,_ | 6,_ | 7,_ | 8,_ | 9,_=>first | exact⟨rfl,rfl⟩ | exact absurd rfl h2
  | i+10,h1=>omega
theorem ee_gu(F_:Fm)(T:Tt)(w:Bs)(g:List Bs):e_gu g (Jbr T) (Jbi T)=if(w::g).length=4 then(addR F_ T 7 (w::g)).1 else 1:=by
 by_cases h:(w::g).length=4
 ·rw[if_pos h]
  obtain⟨a,b,c,d,q⟩:=four h;cases q;show _=err _
  rw[Jcp];rfl
 ·rw[if_neg h]
  have h':¬(g.drop 0).length=3:=Kt;unfold e_gu;exact Wak
theorem Qet(F_:Fm)(H:Rec w0 F vs ts g W)(P:Pt w0 vs ts T U N)(hN:N+1<=1000000)(w:Bs):
  Calls prog 91 #[.pointer (some ⟨F,0,none⟩)] W fun r w'=>r=.returned (.tuple #[])/\AdP w0 F vs ts (if(w::g).length=4 then(addR F_ T 7 (w::g)).1 else 1) (addR F_ T 7 (w::g)).2 N w':=by
 obtain⟨v0,tb⟩:=P.tabs 7 Ka;obtain⟨i0,i1,i2,i3⟩:=Jdv P.cop;obtain⟨Btr,X_tr⟩:=P.ix 3 Ka;obtain⟨Bst,X_st⟩:=P.ix 0 Ka;rw[show idsT U 3=Jbr T from i3] at X_tr;rw[show idsT U 0=Jbi T from i0] at X_st;have hl:ts.length=28+U.tr.length:=P.tlen;refine(ad_gu H (l:=U.gu) tb X_tr X_st).mono fun r w' h=>⟨h.1,?_⟩
 obtain⟨v',v,G⟩:=h.2;refine⟨_,_,G,by rw[<-ee_gu];exact Jfv (k:=7) P.vlen,Jcr (k:=7) P.vlen,⟨Jbk (k:=7) Ka Ka,Jbk (k:=7) Ka Ka,(Jao Kd),fun i h1 h2=>(Jao Ka)⟩,fun hE=>?_⟩;have hc:(w::g).length=4:=Decidable.byContradiction fun q=>Waj
 have eT:(addR F_ T 7 (w::g)).2={ T with gu:=T.gu++[x_gu g (Jbr T) (Jbi T)] }:=by
  obtain⟨a,b,c,d,q⟩:=four hc;cases q;rfl
 rw[eT];refine⟨{ U with gu:=U.gu++[x_gu g (Jbr T) (Jbi T)] },P.upd hN 7 Ka ⟨P.cop.st,P.cop.ro,P.cop.ca,P.cop.ex,P.cop.tr,P.cop.fr,P.cop.th,by show U.gu++_=T.gu++_;rw[P.cop.gu],P.cop.pa,P.cop.pr,P.cop.di,P.cop.wi,P.cop.cp⟩ v (Jcr (k:=7) P.vlen) (fun i h1 h2=>Jbk (k:=7) h1 h2) (Jd7 (k:=7) P.vlen Ka) Wal ?_ (fun i h1 h2=>?_) (fun i h1=>?_) (fun j hj=>?_) (by show(U.gu++[_]).length=_;rw[Pq];rfl) (fun i h1 h2=>?_) rfl ⟨rfl,rfl,rfl⟩⟩
 ·have e:lenP { U with gu:=U.gu++[x_gu g (Jbr T) (Jbi T)] } 7=U.gu.length+1:=by show(U.gu++[_]).length=_;rw[Pq];rfl
  exact Waq
 ·rw[Jao h2]
 ·rw[Jao Ka]
 ·obtain⟨B',hB⟩:=P.ix j hj
  have e2:idsT { U with gu:=U.gu++[x_gu g (Jbr T) (Jbi T)] } j=idsT U j:=by match j,hj with | 0,_ | 1,_ | 2,_ | 3,_=>rfl
  rw[e2];exact⟨B',hB.keep (Jbk (k:=7) Ka Ka) (Jao Ka)⟩
 ·match i,h1 with
  | 0,_ | 1,_ | 2,_ | 3,_ | 4,_ | 5,_ | 6,_ | 7,_ | 8,_ | 9,_=>first | exact⟨rfl,rfl⟩ | exact absurd rfl h2
  | i+10,h1=>omega
theorem ee_pa(F_:Fm)(T:Tt)(w:Bs)(g:List Bs):e_pa F_ g (Jbi T)=if(w::g).length=5 then(addR F_ T 8 (w::g)).1 else 1:=by
 by_cases h:(w::g).length=5
 ·rw[if_pos h]
  obtain⟨a,b,c,d,e,q⟩:=five h;cases q;show _=err _
  rw[Jcp];rfl
 ·rw[if_neg h]
  have h':¬(g.drop 0).length=4:=Kt;unfold e_pa;exact Wak
theorem Qeu(F_:Fm)(H:Rec w0 F vs ts g W)(FO:Fo F_ w0)(P:Pt w0 vs ts T U N)(hN:N+1<=1000000)(w:Bs):
  Calls prog 92 #[.pointer (some ⟨F,0,none⟩)] W fun r w'=>r=.returned (.tuple #[])/\AdP w0 F vs ts (if(w::g).length=5 then(addR F_ T 8 (w::g)).1 else 1) (addR F_ T 8 (w::g)).2 N w':=by
 obtain⟨v0,tb⟩:=P.tabs 8 Ka;obtain⟨i0,i1,i2,i3⟩:=Jdv P.cop;obtain⟨Bst,X_st⟩:=P.ix 0 Ka;rw[show idsT U 0=Jbi T from i0] at X_st;have hl:ts.length=28+U.tr.length:=P.tlen;refine(ad_pa F_ H FO (l:=U.pa) tb X_st).mono fun r w' h=>⟨h.1,?_⟩
 obtain⟨v',v,G⟩:=h.2;refine⟨_,_,G,by rw[<-ee_pa];exact Jfv (k:=8) P.vlen,Jcr (k:=8) P.vlen,⟨Jbk (k:=8) Ka Ka,Jbk (k:=8) Ka Ka,(Jao Kd),fun i h1 h2=>(Jao Ka)⟩,fun hE=>?_⟩;have hc:(w::g).length=5:=Decidable.byContradiction fun q=>Waj
 have eT:(addR F_ T 8 (w::g)).2={ T with pa:=T.pa++[x_pa F_ g (Jbi T)] }:=by
  obtain⟨a,b,c,d,e,q⟩:=five hc;cases q;rfl
 rw[eT];refine⟨{ U with pa:=U.pa++[x_pa F_ g (Jbi T)] },P.upd hN 8 Ka ⟨P.cop.st,P.cop.ro,P.cop.ca,P.cop.ex,P.cop.tr,P.cop.fr,P.cop.th,P.cop.gu,by show U.pa++_=T.pa++_;rw[P.cop.pa],P.cop.pr,P.cop.di,P.cop.wi,P.cop.cp⟩ v (Jcr (k:=8) P.vlen) (fun i h1 h2=>Jbk (k:=8) h1 h2) (Jd7 (k:=8) P.vlen Ka) Wal ?_ (fun i h1 h2=>?_) (fun i h1=>?_) (fun j hj=>?_) (by show(U.pa++[_]).length=_;rw[Pq];rfl) (fun i h1 h2=>?_) rfl ⟨rfl,rfl,rfl⟩⟩
 ·have e:lenP { U with pa:=U.pa++[x_pa F_ g (Jbi T)] } 8=U.pa.length+1:=by show(U.pa++[_]).length=_;rw[Pq];rfl
  exact Waq
 ·rw[Jao h2]
 ·rw[Jao Ka]
 ·obtain⟨B',hB⟩:=P.ix j hj
  have e2:idsT { U with pa:=U.pa++[x_pa F_ g (Jbi T)] } j=idsT U j:=by match j,hj with | 0,_ | 1,_ | 2,_ | 3,_=>rfl
  rw[e2];exact⟨B',hB.keep (Jbk (k:=8) Ka Ka) (Jao Ka)⟩
 ·match i,h1 with
  | 0,_ | 1,_ | 2,_ | 3,_ | 4,_ | 5,_ | 6,_ | 7,_ | 8,_ | 9,_=>first | exact⟨rfl,rfl⟩ | exact absurd rfl h2
  | i+10,h1=>omega
theorem ee_pr(F_:Fm)(T:Tt)(w:Bs)(g:List Bs):e_pr F_ g=if(w::g).length=7 then(addR F_ T 9 (w::g)).1 else 1:=by
 by_cases h:(w::g).length=7
 ·rw[if_pos h]
  obtain⟨a,b,c,d,e,f,g,q⟩:=Qal h;cases q;show _=err _
  rw[Jcp];rfl
 ·rw[if_neg h]
  have h':¬(g.drop 0).length=6:=Kt;unfold e_pr;exact Wak
theorem Qev(F_:Fm)(H:Rec w0 F vs ts g W)(FO:Fo F_ w0)(P:Pt w0 vs ts T U N)(hN:N+1<=1000000)(w:Bs):
  Calls prog 93 #[.pointer (some ⟨F,0,none⟩)] W fun r w'=>r=.returned (.tuple #[])/\AdP w0 F vs ts (if(w::g).length=7 then(addR F_ T 9 (w::g)).1 else 1) (addR F_ T 9 (w::g)).2 N w':=by
 obtain⟨v0,tb⟩:=P.tabs 9 Ka;obtain⟨i0,i1,i2,i3⟩:=Jdv P.cop;have hl:ts.length=28+U.tr.length:=P.tlen;refine(ad_pr F_ H FO (l:=U.pr) tb).mono fun r w' h=>⟨h.1,?_⟩
 obtain⟨v',v,G⟩:=h.2;refine⟨_,_,G,by rw[<-ee_pr];exact Jfv (k:=9) P.vlen,Jcr (k:=9) P.vlen,⟨Jbk (k:=9) Ka Ka,Jbk (k:=9) Ka Ka,(Jao Kd),fun i h1 h2=>(Jao Ka)⟩,fun hE=>?_⟩;have hc:(w::g).length=7:=Decidable.byContradiction fun q=>Waj
 have eT:(addR F_ T 9 (w::g)).2={ T with pr:=T.pr++[x_pr F_ g] }:=by
  obtain⟨a,b,c,d,e,f,g,q⟩:=Qal hc;cases q;rfl
 rw[eT];refine⟨{ U with pr:=U.pr++[x_pr F_ g] },P.upd hN 9 Ka ⟨P.cop.st,P.cop.ro,P.cop.ca,P.cop.ex,P.cop.tr,P.cop.fr,P.cop.th,P.cop.gu,P.cop.pa,by show U.pr++_=T.pr++_;rw[P.cop.pr],P.cop.di,P.cop.wi,P.cop.cp⟩ v (Jcr (k:=9) P.vlen) (fun i h1 h2=>Jbk (k:=9) h1 h2) (Jd7 (k:=9) P.vlen Ka) Wal ?_ (fun i h1 h2=>?_) (fun i h1=>?_) (fun j hj=>?_) (by show(U.pr++[_]).length=_;rw[Pq];rfl) (fun i h1 h2=>?_) rfl ⟨rfl,rfl,rfl⟩⟩
 ·have e:lenP { U with pr:=U.pr++[x_pr F_ g] } 9=U.pr.length+1:=by show(U.pr++[_]).length=_;rw[Pq];rfl
  exact Waq
 ·rw[Jao h2]
 ·rw[Jao Ka]
 ·obtain⟨B',hB⟩:=P.ix j hj
  have e2:idsT { U with pr:=U.pr++[x_pr F_ g] } j=idsT U j:=by match j,hj with | 0,_ | 1,_ | 2,_ | 3,_=>rfl
  rw[e2];exact⟨B',hB.keep (Jbk (k:=9) Ka Ka) (Jao Ka)⟩
 ·match i,h1 with
  | 0,_ | 1,_ | 2,_ | 3,_ | 4,_ | 5,_ | 6,_ | 7,_ | 8,_ | 9,_=>first | exact⟨rfl,rfl⟩ | exact absurd rfl h2
  | i+10,h1=>omega
end
end
end Go.Proofs.YtpifdbphmnifdaaGreatDoor
