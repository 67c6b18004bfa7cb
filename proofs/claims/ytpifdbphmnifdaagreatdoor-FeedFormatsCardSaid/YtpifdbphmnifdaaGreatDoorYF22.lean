/-
  Facts. Condition: each theorem's own.
-/
import Derived.Test.YtpifdbphmnifdaaGreatDoorYF21
set_option maxRecDepth 100000
set_option maxHeartbeats 8000000
section
variable {p:Prop}
theorem Wa2(h:p:=by rintro e w8 ⟨rfl,bw8⟩;have B8:=Pe bw8;clear bw8 K0 p0 p1 p2 p3 p4 p5 p6 p7 p8 p9 p10 p11 p12;go_wp2_with fail;go_ret2;exact⟨rfl,B8.out⟩):p:=h
theorem Wa3(h:p:=by rw[cell_of_row _ _ _ _ _ _ hG];rfl):p:=h
theorem Wa4(h:p:=by exact⟨by show -9223372036854775808<=_+_;omega,by show _+_<=(9223372036854775807:Int);omega⟩):p:=h
theorem Wa5(h:p:=by exact⟨⟨h1,h2,h3,h4⟩,h5⟩):p:=h
theorem Wa6(h:p:=by exact⟨Kd,Kd⟩):p:=h
theorem Wa7(h:p:=by rintro r w2 ⟨rfl,rfl⟩;exact Gr):p:=h
theorem Wa8(h:p:=by have:=HR.out.2.1;omega):p:=h
end
open Go.Proofs.Tryz
namespace Go.Proofs.YtpifdbphmnifdaaGreatDoor
section
open Go.RowKit
theorem J6w(a:Nat->Option Addr)(c:Nat->Nat)(T:Tt)(hf:manT T=true)(_ok:OkTt T)(B:Nat)(w:World)(hB:w.heap[B]?=some (Jbw a c T))(h:TtL w a c T):Pc 96 #[.pointer (some ⟨B,0,none⟩)] w (.tuple #[.int .i64 ((Jam T 0).1),.int .i64 ((Jam T 0).2)]):=by
 obtain⟨p0,p1,p2,p3,p4,p5,p6,p7,p8,p9,p10,p11,p12⟩:=Jbv hB;obtain⟨⟨f0,f1,f2,f3,f4,f5,f6,f7,f8,f9⟩,hts0⟩:=Jbj.1 hf;have hts:∀x∈T.tr,(clT x).length<=1000000:=fun x hx=>Gs
 have K0:=Pe (S13.kcheck_all (.slice (a 0) T.st.length (c 0)) T.st Ka w h.st);obtain⟨⟨x0,y0⟩,q0⟩:=Pi (Jam T 0);have e0:S13.chkT T.st=(x0,y0):=q0;rw[e0] at K0;rw[q0];clear f0 f1 f2 f3 f4 f5 f6 f7 f8 f9 hts hts0 hf _ok h hB e0 q0;go_enter func96,ntmps96;go_wp2_with fail;refine(K0.out).mono ?_;exact Wa2
theorem J6x(a:Nat->Option Addr)(c:Nat->Nat)(T:Tt)(hf:manT T=true)(_ok:OkTt T)(B:Nat)(w:World)(hB:w.heap[B]?=some (Jbw a c T))(h:TtL w a c T):Pc 98 #[.pointer (some ⟨B,0,none⟩)] w (.tuple #[.int .i64 ((Jam T 1).1),.int .i64 ((Jam T 1).2)]):=by
 obtain⟨p0,p1,p2,p3,p4,p5,p6,p7,p8,p9,p10,p11,p12⟩:=Jbv hB;obtain⟨⟨f0,f1,f2,f3,f4,f5,f6,f7,f8,f9⟩,hts0⟩:=Jbj.1 hf;have hts:∀x∈T.tr,(clT x).length<=1000000:=fun x hx=>Gs
 have K0:=Pe (S15.kcheck_any (.slice (a 1) T.ro.length (c 1)) T.ro Ka w h.ro);obtain⟨⟨x0,y0⟩,q0⟩:=Pi (Jam T 1);have e0:chkR T.ro=(x0,y0):=q0;rw[e0] at K0;rw[q0];clear f0 f1 f2 f3 f4 f5 f6 f7 f8 f9 hts hts0 hf _ok h hB e0 q0;go_enter func98,ntmps98;go_wp2_with fail;refine(K0.out).mono ?_;exact Wa2
theorem J6y(a:Nat->Option Addr)(c:Nat->Nat)(T:Tt)(hf:manT T=true)(_ok:OkTt T)(B:Nat)(w:World)(hB:w.heap[B]?=some (Jbw a c T))(h:TtL w a c T):Pc 100 #[.pointer (some ⟨B,0,none⟩)] w (.tuple #[.int .i64 ((Jam T 2).1),.int .i64 ((Jam T 2).2)]):=by
 obtain⟨p0,p1,p2,p3,p4,p5,p6,p7,p8,p9,p10,p11,p12⟩:=Jbv hB;obtain⟨⟨f0,f1,f2,f3,f4,f5,f6,f7,f8,f9⟩,hts0⟩:=Jbj.1 hf;have hts:∀x∈T.tr,(clT x).length<=1000000:=fun x hx=>Gs
 have K0:=Pe (S14.kcheck_all (.slice (a 2) T.ca.length (c 2)) T.ca Ka w h.ca);obtain⟨⟨x0,y0⟩,q0⟩:=Pi (Jam T 2);have e0:S14.chkC T.ca=(x0,y0):=q0;rw[e0] at K0;rw[q0];clear f0 f1 f2 f3 f4 f5 f6 f7 f8 f9 hts hts0 hf _ok h hB e0 q0;go_enter func100,ntmps100;go_wp2_with fail;refine(K0.out).mono ?_;exact Wa2
theorem J6z(a:Nat->Option Addr)(c:Nat->Nat)(T:Tt)(hf:manT T=true)(ok:OkTt T)(B Bc:Nat)(w:World)(hB:w.heap[B]?=some (Jbw a c T))(hc:w.cell? ⟨Bc,0,none⟩=some (.int .i64 T.ca.length))(h:TtL w a c T):Pc 102 #[.pointer (some ⟨B,0,none⟩),.pointer (some ⟨Bc,0,none⟩)] w (.tuple #[.int .i64 ((Jam T 3).1),.int .i64 ((Jam T 3).2)]):=by
 obtain⟨p0,p1,p2,p3,p4,p5,p6,p7,p8,p9,p10,p11,p12⟩:=Jbv hB;obtain⟨⟨f0,f1,f2,f3,f4,f5,f6,f7,f8,f9⟩,hts0⟩:=Jbj.1 hf;have hts:∀x∈T.tr,(clT x).length<=1000000:=fun x hx=>Gs
 have K0:=Pe (S14.kcx_any (.slice (a 3) T.ex.length (c 3)) T.ex T.ca.length Ka ok.1 w h.ex);obtain⟨⟨x0,y0⟩,q0⟩:=Pi (Jam T 3);have e0:S14.chkX T.ca.length T.ex=(x0,y0):=q0;rw[e0] at K0;rw[q0];clear f0 f1 f2 f3 f4 f5 f6 f7 f8 f9 hts hts0 hf ok h hB e0 q0;go_enter func102,ntmps102;go_wp2_with fail;refine(K0.out).mono ?_;exact Wa2
theorem J60(a:Nat->Option Addr)(c:Nat->Nat)(T:Tt)(hf:manT T=true)(_ok:OkTt T)(B Bs Br Bc:Nat)(w:World)(hB:w.heap[B]?=some (Jbw a c T))(hs:w.cell? ⟨Bs,0,none⟩=some (.int .i64 T.st.length))(hr:w.cell? ⟨Br,0,none⟩=some (.int .i64 T.ro.length))(hc:w.cell? ⟨Bc,0,none⟩=some (.int .i64 T.ca.length))(h:TtL w a c T):Pc 104 #[.pointer (some ⟨B,0,none⟩),.pointer (some ⟨Bs,0,none⟩),.pointer (some ⟨Br,0,none⟩),.pointer (some ⟨Bc,0,none⟩)] w (.tuple #[.int .i64 ((Jam T 4).1),.int .i64 ((Jam T 4).2)]):=by
 obtain⟨p0,p1,p2,p3,p4,p5,p6,p7,p8,p9,p10,p11,p12⟩:=Jbv hB;obtain⟨⟨f0,f1,f2,f3,f4,f5,f6,f7,f8,f9⟩,hts0⟩:=Jbj.1 hf;have hts:∀x∈T.tr,(clT x).length<=1000000:=fun x hx=>Gs
 have K0:=Pe (S17.ktck_any (.slice (a 4) T.tr.length (c 4)) T.tr Ka T.st.length T.ro.length T.ca.length w h.tr);obtain⟨⟨x0,y0⟩,q0⟩:=Pi (Jam T 4);have e0:S17.chkT T.st.length T.ro.length T.ca.length T.tr=(x0,y0):=q0;rw[e0] at K0;rw[q0];clear f0 f1 f2 f3 f4 f5 f6 f7 f8 f9 hts hts0 hf _ok h hB e0 q0;go_enter func104,ntmps104;go_wp2_with fail;refine(K0.out).mono ?_;exact Wa2
theorem J61(a:Nat->Option Addr)(c:Nat->Nat)(T:Tt)(hf:manT T=true)(_ok:OkTt T)(B:Nat)(w:World)(hB:w.heap[B]?=some (Jbw a c T))(h:TtL w a c T):Pc 106 #[.pointer (some ⟨B,0,none⟩)] w (.tuple #[.int .i64 ((Jam T 5).1),.int .i64 ((Jam T 5).2)]):=by
 obtain⟨p0,p1,p2,p3,p4,p5,p6,p7,p8,p9,p10,p11,p12⟩:=Jbv hB;obtain⟨⟨f0,f1,f2,f3,f4,f5,f6,f7,f8,f9⟩,hts0⟩:=Jbj.1 hf;have hts:∀x∈T.tr,(clT x).length<=1000000:=fun x hx=>Gs
 have K0:=Pe (S18.kchk_any (.slice (a 5) T.fr.length (c 5)) T.fr Ka (.slice (a 4) T.tr.length (c 4)) T.tr hts w h.fr h.tr);obtain⟨⟨x0,y0⟩,q0⟩:=Pi (Jam T 5);have e0:chkF (T.tr.map clT) T.fr=(x0,y0):=q0;rw[e0] at K0;rw[q0];clear f0 f1 f2 f3 f4 f5 f6 f7 f8 f9 hts hts0 hf _ok h hB e0 q0;go_enter func106,ntmps106;go_wp2_with fail;refine(K0.out).mono ?_;exact Wa2
theorem J62(a:Nat->Option Addr)(c:Nat->Nat)(T:Tt)(hf:manT T=true)(ok:OkTt T)(B:Nat)(w:World)(hB:w.heap[B]?=some (Jbw a c T))(h:TtL w a c T):Pc 108 #[.pointer (some ⟨B,0,none⟩)] w (.tuple #[.int .i64 ((Jam T 6).1),.int .i64 ((Jam T 6).2)]):=by
 obtain⟨p0,p1,p2,p3,p4,p5,p6,p7,p8,p9,p10,p11,p12⟩:=Jbv hB;obtain⟨⟨f0,f1,f2,f3,f4,f5,f6,f7,f8,f9⟩,hts0⟩:=Jbj.1 hf;have hts:∀x∈T.tr,(clT x).length<=1000000:=fun x hx=>Gs
 have K0:=Pe (S19.kchkh_any (.slice (a 6) T.th.length (c 6)) T.th Ka ok.2.1 (.slice (a 4) T.tr.length (c 4)) T.tr hts (.slice (a 5) T.fr.length (c 5)) T.fr Ka w h.th h.tr h.fr);obtain⟨⟨x0,y0⟩,q0⟩:=Pi (Jam T 6);have e0:S19.chkH (T.tr.map S19.tcT) T.fr T.th=(x0,y0):=q0;rw[e0] at K0;rw[q0];clear f0 f1 f2 f3 f4 f5 f6 f7 f8 f9 hts hts0 hf ok h hB e0 q0;go_enter func108,ntmps108;go_wp2_with fail;refine(K0.out).mono ?_;exact Wa2
theorem J63(a:Nat->Option Addr)(c:Nat->Nat)(T:Tt)(hf:manT T=true)(ok:OkTt T)(B Bs:Nat)(w:World)(hB:w.heap[B]?=some (Jbw a c T))(hs:w.cell? ⟨Bs,0,none⟩=some (.int .i64 T.st.length))(h:TtL w a c T):Pc 110 #[.pointer (some ⟨B,0,none⟩),.pointer (some ⟨Bs,0,none⟩)] w (.tuple #[.int .i64 ((Jam T 7).1),.int .i64 ((Jam T 7).2)]):=by
 obtain⟨p0,p1,p2,p3,p4,p5,p6,p7,p8,p9,p10,p11,p12⟩:=Jbv hB;obtain⟨⟨f0,f1,f2,f3,f4,f5,f6,f7,f8,f9⟩,hts0⟩:=Jbj.1 hf;have hts:∀x∈T.tr,(clT x).length<=1000000:=fun x hx=>Gs
 have K0:=Pe (S19.kchku_any (.slice (a 7) T.gu.length (c 7)) T.gu Ka ok.2.2.1 (.slice (a 4) T.tr.length (c 4)) T.tr hts (.slice (a 5) T.fr.length (c 5)) T.fr Ka T.st.length w h.gu h.tr h.fr);obtain⟨⟨x0,y0⟩,q0⟩:=Pi (Jam T 7);have e0:S19.chkU (T.tr.map S19.tcT) T.fr T.st.length T.gu=(x0,y0):=q0;rw[e0] at K0;rw[q0];clear f0 f1 f2 f3 f4 f5 f6 f7 f8 f9 hts hts0 hf ok h hB e0 q0;go_enter func110,ntmps110;go_wp2_with fail;refine(K0.out).mono ?_;exact Wa2
theorem J64(a:Nat->Option Addr)(c:Nat->Nat)(T:Tt)(hf:manT T=true)(ok:OkTt T)(B Bs:Nat)(w:World)(hB:w.heap[B]?=some (Jbw a c T))(hs:w.cell? ⟨Bs,0,none⟩=some (.int .i64 T.st.length))(h:TtL w a c T):Pc 112 #[.pointer (some ⟨B,0,none⟩),.pointer (some ⟨Bs,0,none⟩)] w (.tuple #[.int .i64 ((Jam T 8).1),.int .i64 ((Jam T 8).2)]):=by
 obtain⟨p0,p1,p2,p3,p4,p5,p6,p7,p8,p9,p10,p11,p12⟩:=Jbv hB;obtain⟨⟨f0,f1,f2,f3,f4,f5,f6,f7,f8,f9⟩,hts0⟩:=Jbj.1 hf;have hts:∀x∈T.tr,(clT x).length<=1000000:=fun x hx=>Gs
 have K0:=Pe (S20.kchk_any (.slice (a 8) T.pa.length (c 8)) T.pa Ka T.st.length ok.2.2.2 w h.pa);obtain⟨⟨x0,y0⟩,q0⟩:=Pi (Jam T 8);have e0:S20.chkP T.st.length T.pa=(x0,y0):=q0;rw[e0] at K0;rw[q0];clear f0 f1 f2 f3 f4 f5 f6 f7 f8 f9 hts hts0 hf ok h hB e0 q0;go_enter func112,ntmps112;go_wp2_with fail;refine(K0.out).mono ?_;exact Wa2
theorem J65(a:Nat->Option Addr)(c:Nat->Nat)(T:Tt)(hf:manT T=true)(_ok:OkTt T)(B:Nat)(w:World)(hB:w.heap[B]?=some (Jbw a c T))(h:TtL w a c T):Pc 114 #[.pointer (some ⟨B,0,none⟩)] w (.tuple #[.int .i64 ((Jam T 9).1),.int .i64 ((Jam T 9).2)]):=by
 obtain⟨p0,p1,p2,p3,p4,p5,p6,p7,p8,p9,p10,p11,p12⟩:=Jbv hB;obtain⟨⟨f0,f1,f2,f3,f4,f5,f6,f7,f8,f9⟩,hts0⟩:=Jbj.1 hf;have hts:∀x∈T.tr,(clT x).length<=1000000:=fun x hx=>Gs
 have K0:=Pe (S21.kcheck_any (.slice (a 9) T.pr.length (c 9)) T.pr T.di T.wi T.cp Ka w h.pr);obtain⟨⟨x0,y0⟩,q0⟩:=Pi (Jam T 9);have e0:S21.chkPd T.di T.wi T.cp T.pr=(x0,y0):=q0;rw[e0] at K0;rw[q0];clear f0 f1 f2 f3 f4 f5 f6 f7 f8 f9 hts hts0 hf _ok h hB e0 q0;go_enter func114,ntmps114;go_wp2_with fail;refine(K0.out).mono ?_;exact Wa2
def Cks(T:Tt)(W:World)(v:Value):Prop:=∃G o,v=.slice (some ⟨G,o,none⟩) 10 10/\G<W.heap.size/\∀j,j<10->∃K caps,W.cell? ⟨G,o+j,none⟩=some (.func (.func K) #[] caps)/\(∀args W,(callFunc K args).run prog W=.ok (.enter K args) W) /\
 ∀W',Po W W'->Pc K caps W' (.tuple #[.int .i64 (Jam T j).1,.int .i64 (Jam T j).2])
theorem ent0:∀args W,(callFunc 96 args).run prog W=.ok (.enter 96 args) W:=Jcg func96 Kl Kl
theorem ent1:∀args W,(callFunc 98 args).run prog W=.ok (.enter 98 args) W:=Jcg func98 Kl Kl
theorem ent2:∀args W,(callFunc 100 args).run prog W=.ok (.enter 100 args) W:=Jcg func100 Kl Kl
theorem ent3:∀args W,(callFunc 102 args).run prog W=.ok (.enter 102 args) W:=Jcg func102 Kl Kl
theorem ent4:∀args W,(callFunc 104 args).run prog W=.ok (.enter 104 args) W:=Jcg func104 Kl Kl
theorem ent5:∀args W,(callFunc 106 args).run prog W=.ok (.enter 106 args) W:=Jcg func106 Kl Kl
theorem ent6:∀args W,(callFunc 108 args).run prog W=.ok (.enter 108 args) W:=Jcg func108 Kl Kl
theorem ent7:∀args W,(callFunc 110 args).run prog W=.ok (.enter 110 args) W:=Jcg func110 Kl Kl
theorem ent8:∀args W,(callFunc 112 args).run prog W=.ok (.enter 112 args) W:=Jcg func112 Kl Kl
theorem ent9:∀args W,(callFunc 114 args).run prog W=.ok (.enter 114 args) W:=Jcg func114 Kl Kl
theorem Qfg(a:Nat->Option Addr)(c:Nat->Nat)(T:Tt)(hf:manT T=true)(ok:OkTt T)(B Bs Br Bc G:Nat)(w:World)(hB:w.heap[B]?=some (Jbw a c T))(hs:w.cell? ⟨Bs,0,none⟩=some (.int .i64 T.st.length))(hr:w.cell? ⟨Br,0,none⟩=some (.int .i64 T.ro.length))(hc:w.cell? ⟨Bc,0,none⟩=some (.int .i64 T.ca.length))(h:TtL w a c T)(t:TypeId)(hG:w.heap[G]?=some (.cells #[.func (.func 96) #[] #[.pointer (some ⟨B,0,none⟩)],.func (.func 98) #[] #[.pointer (some ⟨B,0,none⟩)],.func (.func 100) #[] #[.pointer (some ⟨B,0,none⟩)],.func (.func 102) #[] #[.pointer (some ⟨B,0,none⟩),.pointer (some ⟨Bc,0,none⟩)],.func (.func 104) #[] #[.pointer (some ⟨B,0,none⟩),.pointer (some ⟨Bs,0,none⟩),.pointer (some ⟨Br,0,none⟩),.pointer (some ⟨Bc,0,none⟩)],.func (.func 106) #[] #[.pointer (some ⟨B,0,none⟩)],.func (.func 108) #[] #[.pointer (some ⟨B,0,none⟩)],.func (.func 110) #[] #[.pointer (some ⟨B,0,none⟩),.pointer (some ⟨Bs,0,none⟩)],.func (.func 112) #[] #[.pointer (some ⟨B,0,none⟩),.pointer (some ⟨Bs,0,none⟩)],.func (.func 114) #[] #[.pointer (some ⟨B,0,none⟩)]] t (0,0))):Cks T w (.slice (some ⟨G,0,none⟩) 10 10):=by
 have gB:B<w.heap.size:=(Pn hB).1;have gs:=World.block_lt_of_cell? _ _ hs;have gr:=World.block_lt_of_cell? _ _ hr;have gc:=World.block_lt_of_cell? _ _ hc;refine⟨G,0,rfl,(Pn hG).1,fun j hj=>?_⟩;match j,hj with
 | 0,_=>exact⟨_,_,Wa3,ent0,fun W' hW=>J6w a c T hf ok B W' ((hW.block _ gB).trans hB) (h.below hW)⟩
 | 1,_=>exact⟨_,_,Wa3,ent1,fun W' hW=>J6x a c T hf ok B W' ((hW.block _ gB).trans hB) (h.below hW)⟩
 | 2,_=>exact⟨_,_,Wa3,ent2,fun W' hW=>J6y a c T hf ok B W' ((hW.block _ gB).trans hB) (h.below hW)⟩
 | 3,_=>exact⟨_,_,Wa3,ent3,fun W' hW=>J6z a c T hf ok B Bc W' ((hW.block _ gB).trans hB) ((hW.cell (p:=⟨Bc,0,none⟩) gc).trans hc) (h.below hW)⟩
 | 4,_=>exact⟨_,_,Wa3,ent4,fun W' hW=>J60 a c T hf ok B Bs Br Bc W' ((hW.block _ gB).trans hB) ((hW.cell (p:=⟨Bs,0,none⟩) gs).trans hs) ((hW.cell (p:=⟨Br,0,none⟩) gr).trans hr) ((hW.cell (p:=⟨Bc,0,none⟩) gc).trans hc) (h.below hW)⟩
 | 5,_=>exact⟨_,_,Wa3,ent5,fun W' hW=>J61 a c T hf ok B W' ((hW.block _ gB).trans hB) (h.below hW)⟩
 | 6,_=>exact⟨_,_,Wa3,ent6,fun W' hW=>J62 a c T hf ok B W' ((hW.block _ gB).trans hB) (h.below hW)⟩
 | 7,_=>exact⟨_,_,Wa3,ent7,fun W' hW=>J63 a c T hf ok B Bs W' ((hW.block _ gB).trans hB) ((hW.cell (p:=⟨Bs,0,none⟩) gs).trans hs) (h.below hW)⟩
 | 8,_=>exact⟨_,_,Wa3,ent8,fun W' hW=>J64 a c T hf ok B Bs W' ((hW.block _ gB).trans hB) ((hW.cell (p:=⟨Bs,0,none⟩) gs).trans hs) (h.below hW)⟩
 | 9,_=>exact⟨_,_,Wa3,ent9,fun W' hW=>J65 a c T hf ok B W' ((hW.block _ gB).trans hB) (h.below hW)⟩
 | n+10,h=>omega
variable {W w0 w1:World} {F N b:Nat} {U T:Tt} {t:TypeId} {r:Rd}
theorem J2x{x y z:Nat}{u1 u2 u3:Value}(hx:Boxed W x t u1)(hy:Boxed W y t u2)(hz:Boxed W z t u3)(xy:x≠y)(xz:x≠z)(yz:y≠z)(p q r:Value):
  Boxed (((W.setCell ⟨x,0,none⟩ p).setCell ⟨y,0,none⟩ q).setCell ⟨z,0,none⟩ r) x t p/\Boxed (((W.setCell ⟨x,0,none⟩ p).setCell ⟨y,0,none⟩ q).setCell ⟨z,0,none⟩ r) y t q/\Boxed (((W.setCell ⟨x,0,none⟩ p).setCell ⟨y,0,none⟩ q).setCell ⟨z,0,none⟩ r) z t r :=
 ⟨((hx.set _).other xy _).other xz _,((hy.other xy.symm _).set _).other yz _,((hz.other xz.symm _).other yz.symm _).set _⟩
theorem Qce(a:Nat->Option Addr)(c:Nat->Nat)(T:Tt)(hf:manT T=true)(ok:OkTt T){w0 W:World}{t ti:TypeId}{B x y z base:Nat}(hb:Below base w0 W)(hB:W.heap[B]?=some (Jbw a c T))(h:TtL w0 a c T)(hbase:base<=B)(bs:base=w0.heap.size)(bx:B<x)(b_y:B<y)(bz:B<z)(hx:Boxed W x ti (.int .i64 0))(hy:Boxed W y ti (.int .i64 0))(hz:Boxed W z ti (.int .i64 0))(xy:x≠y)(xz:x≠z)(yz:y≠z):
  Cks T (((((W.setCell ⟨x,0,none⟩ (.int .i64 T.st.length)).setCell ⟨y,0,none⟩ (.int .i64 T.ro.length)).setCell ⟨z,0,none⟩ (.int .i64 T.ca.length)).alloc (.cells #[.func (.func 96) #[] #[.pointer (some ⟨B,0,none⟩)],.func (.func 98) #[] #[.pointer (some ⟨B,0,none⟩)],.func (.func 100) #[] #[.pointer (some ⟨B,0,none⟩)],.func (.func 102) #[] #[.pointer (some ⟨B,0,none⟩),.pointer (some ⟨z,0,none⟩)],.func (.func 104) #[] #[.pointer (some ⟨B,0,none⟩),.pointer (some ⟨x,0,none⟩),.pointer (some ⟨y,0,none⟩),.pointer (some ⟨z,0,none⟩)],.func (.func 106) #[] #[.pointer (some ⟨B,0,none⟩)],.func (.func 108) #[] #[.pointer (some ⟨B,0,none⟩)],.func (.func 110) #[] #[.pointer (some ⟨B,0,none⟩),.pointer (some ⟨x,0,none⟩)],.func (.func 112) #[] #[.pointer (some ⟨B,0,none⟩),.pointer (some ⟨x,0,none⟩)],.func (.func 114) #[] #[.pointer (some ⟨B,0,none⟩)]] t (0,0))).drew) (.slice (some ⟨W.heap.size,0,none⟩) 10 10)/\Below base w0 (((((W.setCell ⟨x,0,none⟩ (.int .i64 T.st.length)).setCell ⟨y,0,none⟩ (.int .i64 T.ro.length)).setCell ⟨z,0,none⟩ (.int .i64 T.ca.length)).alloc (.cells #[.func (.func 96) #[] #[.pointer (some ⟨B,0,none⟩)],.func (.func 98) #[] #[.pointer (some ⟨B,0,none⟩)],.func (.func 100) #[] #[.pointer (some ⟨B,0,none⟩)],.func (.func 102) #[] #[.pointer (some ⟨B,0,none⟩),.pointer (some ⟨z,0,none⟩)],.func (.func 104) #[] #[.pointer (some ⟨B,0,none⟩),.pointer (some ⟨x,0,none⟩),.pointer (some ⟨y,0,none⟩),.pointer (some ⟨z,0,none⟩)],.func (.func 106) #[] #[.pointer (some ⟨B,0,none⟩)],.func (.func 108) #[] #[.pointer (some ⟨B,0,none⟩)],.func (.func 110) #[] #[.pointer (some ⟨B,0,none⟩),.pointer (some ⟨x,0,none⟩)],.func (.func 112) #[] #[.pointer (some ⟨B,0,none⟩),.pointer (some ⟨x,0,none⟩)],.func (.func 114) #[] #[.pointer (some ⟨B,0,none⟩)]] t (0,0))).drew):=by
 obtain⟨e1,e2,e3⟩:=J2x hx hy hz xy xz yz (.int .i64 T.st.length) (.int .i64 T.ro.length) (.int .i64 T.ca.length);have eB:(((W.setCell ⟨x,0,none⟩ (.int .i64 T.st.length)).setCell ⟨y,0,none⟩ (.int .i64 T.ro.length)).setCell ⟨z,0,none⟩ (.int .i64 T.ca.length)).heap[B]?=some (Jbw a c T):=by
  rw[RowKit.Below.heap_setCell _ _ _ B (by show B≠z;omega),RowKit.Below.heap_setCell _ _ _ B (by show B≠y;omega),RowKit.Below.heap_setCell _ _ _ B (by show B≠x;omega)];exact hB
 have b1:=((hb.setCell (p:=⟨x,0,none⟩) (by show base<=x;omega) (.int .i64 T.st.length)).setCell (p:=⟨y,0,none⟩) (by show base<=y;omega) (.int .i64 T.ro.length)).setCell (p:=⟨z,0,none⟩) (by show base<=z;omega) (.int .i64 T.ca.length);have sz:(((W.setCell ⟨x,0,none⟩ (.int .i64 T.st.length)).setCell ⟨y,0,none⟩ (.int .i64 T.ro.length)).setCell ⟨z,0,none⟩ (.int .i64 T.ca.length)).heap.size=W.heap.size:=Ke;generalize ((W.setCell ⟨x,0,none⟩ (.int .i64 T.st.length)).setCell ⟨y,0,none⟩ (.int .i64 T.ro.length)).setCell ⟨z,0,none⟩ (.int .i64 T.ca.length)=W1 at e1 e2 e3 eB b1 sz |-;rw[<-sz];obtain⟨W2,hW2⟩:=Pi (W1.alloc (.cells #[.func (.func 96) #[] #[.pointer (some ⟨B,0,none⟩)],.func (.func 98) #[] #[.pointer (some ⟨B,0,none⟩)],.func (.func 100) #[] #[.pointer (some ⟨B,0,none⟩)],.func (.func 102) #[] #[.pointer (some ⟨B,0,none⟩),.pointer (some ⟨z,0,none⟩)],.func (.func 104) #[] #[.pointer (some ⟨B,0,none⟩),.pointer (some ⟨x,0,none⟩),.pointer (some ⟨y,0,none⟩),.pointer (some ⟨z,0,none⟩)],.func (.func 106) #[] #[.pointer (some ⟨B,0,none⟩)],.func (.func 108) #[] #[.pointer (some ⟨B,0,none⟩)],.func (.func 110) #[] #[.pointer (some ⟨B,0,none⟩),.pointer (some ⟨x,0,none⟩)],.func (.func 112) #[] #[.pointer (some ⟨B,0,none⟩),.pointer (some ⟨x,0,none⟩)],.func (.func 114) #[] #[.pointer (some ⟨B,0,none⟩)]] t (0,0)));have b2:Po W1 W2:=by rw[<-hW2];exact(Below.refl _ _).alloc Ph _
 have y2:W2.heap[W1.heap.size]?=some (.cells #[.func (.func 96) #[] #[.pointer (some ⟨B,0,none⟩)],.func (.func 98) #[] #[.pointer (some ⟨B,0,none⟩)],.func (.func 100) #[] #[.pointer (some ⟨B,0,none⟩)],.func (.func 102) #[] #[.pointer (some ⟨B,0,none⟩),.pointer (some ⟨z,0,none⟩)],.func (.func 104) #[] #[.pointer (some ⟨B,0,none⟩),.pointer (some ⟨x,0,none⟩),.pointer (some ⟨y,0,none⟩),.pointer (some ⟨z,0,none⟩)],.func (.func 106) #[] #[.pointer (some ⟨B,0,none⟩)],.func (.func 108) #[] #[.pointer (some ⟨B,0,none⟩)],.func (.func 110) #[] #[.pointer (some ⟨B,0,none⟩),.pointer (some ⟨x,0,none⟩)],.func (.func 112) #[] #[.pointer (some ⟨B,0,none⟩),.pointer (some ⟨x,0,none⟩)],.func (.func 114) #[] #[.pointer (some ⟨B,0,none⟩)]] t (0,0)):=by rw[<-hW2];exact heap_alloc_new W1 _
 have gB:B<W1.heap.size:=(Pn eB).1;have bb:Below base w0 W2:=b1.trans (b2.mono Ka);rw[hW2];refine⟨?_,bb.drew⟩;have hh:TtL W2 a c T:=h.below (by have q:=bb;rw[bs] at q;exact q);exact(Qfg a c T hf ok B x y z W1.heap.size W2.drew ((b2.block _ gB).trans eB) ((b2.drew.cell (p:=⟨x,0,none⟩) e1.lt).trans e1.cell) ((b2.drew.cell (p:=⟨y,0,none⟩) e2.lt).trans e2.cell) ((b2.drew.cell (p:=⟨z,0,none⟩) e3.lt).trans e3.cell) (hh.below (Below.refl _ _).drew) t y2)
theorem Jwx(a:Nat->Option Addr)(c:Nat->Nat)(T:Tt)(hf:manT T=true)(ok:OkTt T)(w:World)(h:TtL w a c T):Calls prog 45 #[ttV a c T] w fun e w'=>∃v,e=.returned v/\Cks T w' v/\Po w w':=by
 obtain⟨w7,hw7⟩:=Pi (w.alloc (Jbw a c T));obtain⟨b7,s7,c7⟩:=Jck hw7;obtain⟨w8,hw8⟩:=Pi (w7.alloc (.cells #[.int .i64 0] 3 (0,0)));obtain⟨w9,hw9⟩:=Pi (w8.alloc (.cells #[.int .i64 0] 3 (0,0)));obtain⟨wA,hwA⟩:=Pi (w9.alloc (.cells #[.int .i64 0] 3 (0,0)));have z8:w8.heap.size=w7.heap.size+1:=by rw[<-hw8];simp
 have z9:w9.heap.size=w7.heap.size+2:=by rw[<-hw9];simp[z8]
 have b8:Po w7 w8:=by rw[<-hw8];exact(Below.refl _ _).alloc Ph _
 have b9:Po w8 w9:=by rw[<-hw9];exact(Below.refl _ _).alloc Ph _
 have bA:Po w9 wA:=by rw[<-hwA];exact(Below.refl _ _).alloc Ph _
 have y8:w8.heap[w7.heap.size]?=some (.cells #[.int .i64 0] 3 (0,0)):=by rw[<-hw8];exact heap_alloc_new w7 _
 have y9:w9.heap[w8.heap.size]?=some (.cells #[.int .i64 0] 3 (0,0)):=by rw[<-hw9];exact heap_alloc_new w8 _
 have yA:wA.heap[w9.heap.size]?=some (.cells #[.int .i64 0] 3 (0,0)):=by rw[<-hwA];exact heap_alloc_new w9 _
 have c8:=(bA.block _ Ka).trans ((b9.block _ Ka).trans y8);have c9:=(bA.block _ Ka).trans y9;have b7A:=b8.trans ((b9.trans (bA.mono Ka)).mono Ka);obtain⟨p0,p1,p2,-,-,-,-,-,-,-,-,-,-⟩:=Jbv ((b7A.block _ s7).trans c7);obtain⟨t0,t1,t2,-,-,-,-,-,-,-,-,-,-⟩:=Jbv c7;obtain⟨u0,u1,u2,-,-,-,-,-,-,-,-,-,-⟩:=Jbv ((b8.block _ s7).trans c7);obtain⟨v0,v1,v2,-,-,-,-,-,-,-,-,-,-⟩:=Jbv ((b9.block _ Ka).trans ((b8.block _ s7).trans c7));rw[z8] at c9;rw[z9] at yA;have bx3:∀x,w7.heap.size<=x->x<w7.heap.size+3->Boxed wA x 3 (.int .i64 0):=by
  intro x h1 h2;by_cases e1:x=w7.heap.size
  ·subst e1;exact c8
  by_cases e2:x=w7.heap.size+1
  ·subst e2;exact c9
  have e3:x=w7.heap.size+2:=Ka;subst e3;exact yA
 have r8:wA.cell? ⟨w7.heap.size,0,none⟩=some (.int .i64 0):=by rw[cell_of_row _ _ 0 _ _ _ c8];rfl
 have r9:wA.cell? ⟨w7.heap.size+1,0,none⟩=some (.int .i64 0):=by rw[cell_of_row _ _ 0 _ _ _ c9];rfl
 have rA:wA.cell? ⟨w7.heap.size+2,0,none⟩=some (.int .i64 0):=by rw[cell_of_row _ _ 0 _ _ _ yA];rfl
 have f8:wA.frozen? ⟨w7.heap.size,0,none⟩=false:=frozen_of_row _ _ _ _ _ c8;have f9:wA.frozen? ⟨w7.heap.size+1,0,none⟩=false:=frozen_of_row _ _ _ _ _ c9;have fA:wA.frozen? ⟨w7.heap.size+2,0,none⟩=false:=frozen_of_row _ _ _ _ _ yA;have CE:=Pe (fun(x y z:Nat) (t:TypeId) (x0:w7.heap.size<=x) (x3:x<w7.heap.size+3) (y0:w7.heap.size<=y) (y3:y<w7.heap.size+3) (z0:w7.heap.size<=z) (z3:z<w7.heap.size+3) (xy:x≠y) (xz:x≠z) (yz:y≠z)=>Qce a c T hf ok (t:=t) (B:=w.heap.size) (b7.trans (b7A.mono b7.size)) ((b7A.block _ s7).trans c7) h Ph rfl Ka Ka Ka (bx3 x x0 x3) (bx3 y y0 y3) (bx3 z z0 z3) xy xz yz);have n1:w7.heap.size+1≠w7.heap.size:=Ka;have n2:w7.heap.size+2≠w7.heap.size:=Ka;have n3:w7.heap.size+2≠w7.heap.size+1:=Ka;have n4:w7.heap.size≠w7.heap.size+1:=Ka;have n5:w7.heap.size≠w7.heap.size+2:=Ka;have n6:w7.heap.size+1≠w7.heap.size+2:=Ka;clear bx3 hf ok b7 c7 h y8 y9 yA c8 c9 b7A b8 b9 bA;go_enter func45,ntmps45;go_wp2_with fail;go_region;all_goals
  go_wp2_with fail;go_ret;exact⟨_,rfl,CE.out _ _ _ _ Ka Ka Ka Ka Ka Ka Ka Ka Ka⟩
theorem ckM:CkM:=by
 intro a c T w hf ok _ h;obtain⟨w7,hw7⟩:=Pi (w.alloc (Jbw a c T));obtain⟨b7,s7,c7⟩:=Jck hw7;obtain⟨p0,p1,p2,p3,p4,p5,p6,p7,p8,p9,p10,p11,p12⟩:=Jbv c7;have C1:=Pe (Jwx a c T hf ok w7 (h.below b7));have B7:=Pe b7;obtain⟨V,hV⟩:=Pi (ttC T);rw[hV];have HV:Hid (V=ttF (Jam T) 0 10):=Pe hV.symm;clear hV b7 c7 h s7 hf ok;go_enter func23,ntmps23;go_wp2_with fail;refine C1.out.mono ?_;rintro e w8 ⟨v,rfl,⟨G,o,rfl,gG,KK⟩,b8⟩;have KK:=Pe KK;have GG:Hid (G<w8.heap.size):=Pe gG;have B8:=Pe (B7.out.trans (b8.mono B7.out.size));clear b8 C1 p0 p1 p2 p3 p4 p5 p6 p7 p8 p9 p10 p11 p12 B7 gG hw7;go_wp2_with fail;go_loopw [12] (fun i wr=>∃k:Nat,i=.int .i64 k/\k<=10/\Hid (V=ttF (Jam T) k (10 - k))/\Hid (Po w8 wr)) (fun i _=>10 - (intOf i).toNat);case atStart=>exact⟨0,rfl,Nat.zero_le _,HV,Pe Pg⟩
 case round =>
  clear HV;obtain⟨k,rfl,hk,he,HB⟩:=hrel;by_cases hlt:k<10
  ·obtain⟨K,caps,hcell,hent,hcall⟩:=KK.out k hlt
   have m1:=(HB.out.cell (p:=⟨G,o+k,none⟩) GG.out).trans hcell;have C2:=Pe (hcall wr HB.out);obtain⟨⟨x,y⟩,q⟩:=Pi (Jam T k);rw[q] at C2;have gk:(k:Int)<10:=Ka;obtain⟨r,hr⟩:∃r,10 - k=r+1:=⟨9 - k,Ka⟩;by_cases hy:y=0
   ·have d0:(y != 0)=false:=Jap hy
    have N:Hid (V=ttF (Jam T) (k+1) (10 - (k+1))):=Pe (by rw[he.out,hr,Jmd (by rw[q];exact hy)];congr 1;omega);clear hcell hcall he q hr hlt hk hy;go_wp2_with fail;refine C2.out.mono ?_;rintro e w9 ⟨rfl,b9⟩;have B9:=Pe (HB.out.trans (b9.mono HB.out.size));clear b9 C2 HB m1 hent;go_wp2_with fail;go_roundw;case rel=>exact⟨k+1,Kj,Ka,N,B9⟩
    case measure=>exact Q7
   ·have d0:(y != 0)=true:=Jaf hy
    have R:Hid (V=((k:Int),x,y)):=Pe (by rw[he.out,hr,Jmc (by rw[q];exact hy),q]);clear hcell hcall he q hr hlt hk hy;go_wp2_with fail;refine C2.out.mono ?_;rintro e w9 ⟨rfl,b9⟩;have B9:=Pe (HB.out.trans (b9.mono HB.out.size));clear b9 C2 HB m1 hent;go_wp2_with fail;go_ret3;exact⟨Jt,B8.out.trans (B9.out.mono B8.out.size)⟩
  ·have dk:decide ((k:Int)<10)=false:=Kb
   have R:Hid (V=(0,0,0)):=Pe (by rw[he.out,show 10 - k=0 by omega];rfl);clear he hlt hk;go_wp2_with fail;go_ret3;exact⟨Jt,B8.out.trans (HB.out.mono B8.out.size)⟩
abbrev B64(x:Int):Prop:=-9223372036854775808<=x/\x<=9223372036854775807
structure FmB (F:Fm):Prop where
 tim:∀a,B64 (F.tim a).1
 dur:∀a,B64 (F.dur a).1
 day:∀a,B64 (F.day a).1
def Ok6(T:Tt):Prop:=OkTt T/\∀x∈T.tr,OkS (clT x)
theorem Jg2{e:Int}{l:List Bs}{s:Bs}(h:l.length<=1000000):B64 (fnd e l s).1:=by
 unfold fnd;cases hf:l.findIdx? (fun x=>decide (x=s)) with
 | none=>exact⟨by show -9223372036854775808<=(0:Int);decide,by show(0:Int)<=9223372036854775807;decide⟩
 | some i =>
  have:i<l.length:=(List.findIdx?_eq_some_iff_getElem.1 hf).1;exact⟨by show -9223372036854775808<=(i:Int);omega,by show(i:Int)<=9223372036854775807;omega⟩
theorem Juu(c:Cl):∀(l:List Tp) (x:Tp),x∈addC c l->x∈l\/∃y∈l,x=putC c y
 | [],x,h=>Qi
 | [y],x,h=>by
  have:x=putC c y:=by simpa [addC] using h
  exact .inr ⟨y,List.mem_singleton.2 rfl,this⟩
 | y::z::r,x,h=>by
  have h:x=y\/x∈addC c (z::r):=by simpa [addC] using h
  rcases h with rfl | h
  ·exact .inl (List.mem_cons_self)
  ·rcases Juu c (z::r) x h with q | ⟨v,q,e⟩
   ·exact .inl (List.mem_cons_of_mem _ q)
   ·exact .inr ⟨v,List.mem_cons_of_mem _ q,e⟩
theorem Qcf(F_:Fm)(hB:FmB F_){T:Tt}(h:Ok6 T)(hl:∀i,i<10->lenP T i<=1000000)(k:Nat)(f:List Bs):Ok6 (addR F_ T k f).2:=by
 have l0:(Jbi T).length<=1000000:=by unfold Jbi;rw[Pr];exact hl 0 Ka
 have l1:(Jct T).length<=1000000:=by unfold Jct;rw[Pr];exact hl 1 Ka
 have l2:(Jb5 T).length<=1000000:=by unfold Jb5;rw[Pr];exact hl 2 Ka
 have l4:(Jbr T).length<=1000000:=by unfold Jbr;rw[Pr];exact hl 4 Ka
 obtain⟨⟨h1,h2,h3,h4⟩,h5⟩:=h;unfold addR;split
 ·exact Wa5
 ·exact Wa5
 ·exact Wa5
 ·refine⟨⟨fun j x hx=>?_,h2,h3,h4⟩,h5⟩
  have hx:=List.mem_of_getElem? hx;rcases List.mem_append.1 hx with q | q
  ·obtain⟨j,hj,e⟩:=List.getElem_of_mem q
   exact h1 j x (by rw[List.getElem?_eq_getElem hj,e])
  ·obtain rfl:=List.mem_singleton.1 q
   exact⟨Jg2 l2,hB.day _⟩
 ·refine⟨⟨h1,h2,h3,h4⟩,fun x hx=>?_⟩
  rcases List.mem_append.1 hx with q | q
  ·exact h5 x q
  ·obtain rfl:=List.mem_singleton.1 q
   intro y hy;cases hy
 ·exact Wa5
 ·refine⟨⟨h1,fun x hx=>?_,h3,h4⟩,h5⟩
  rcases List.mem_append.1 hx with q | q
  ·exact h2 x q
  ·obtain rfl:=List.mem_singleton.1 q
   exact⟨Jg2 l4,Jg2 l4⟩
 ·refine⟨⟨h1,h2,fun x hx=>?_,h4⟩,h5⟩
  rcases List.mem_append.1 hx with q | q
  ·exact h3 x q
  ·obtain rfl:=List.mem_singleton.1 q
   exact⟨Jg2 l4,Jg2 l4,Jg2 l0⟩
 ·refine⟨⟨h1,h2,h3,fun x hx=>?_⟩,h5⟩
  rcases List.mem_append.1 hx with q | q
  ·exact h4 x q
  ·obtain rfl:=List.mem_singleton.1 q
   exact⟨Jg2 l0,Jg2 l0⟩
 ·exact Wa5
 ·refine⟨⟨h1,h2,h3,h4⟩,fun x hx=>?_⟩
  rcases Juu _ _ _ hx with q | ⟨y,q,rfl⟩
  ·exact h5 x q
  ·intro z hz
   have hz:z∈clT y++[_]:=hz;rcases List.mem_append.1 hz with r | r
   ·exact h5 y q z r
   ·obtain rfl:=List.mem_singleton.1 r
    exact⟨Jg2 l0,hB.tim _,hB.tim _⟩
 ·exact Wa5
 ·exact Wa5
theorem J2y:Ok6 T0:=⟨⟨fun j x h=>Wa0,fun x h=>Wa0,fun x h=>Wa0,fun x h=>Wa0⟩,fun x h=>Wa0⟩
theorem Qcg(F_:Fm)(hB:FmB F_){r:Rd}(h:Ok6 r.T)(hl:∀i,i<10->lenP r.T i<=1000000)(x:Bs)(n:Int):Ok6 (oneR F_ r x n).2.T:=by
 unfold oneR;split
 ·exact h
 ·split
  ·exact h
  ·unfold rcd
   dsimp only;split
   ·exact h
   ·split
    ·exact h
    ·split
     ·exact h
     ·split
      ·exact h
      ·exact Qcf F_ hB h hl _ _
theorem Qch(h:CopT T U){x:Tp}(hx:x∈U.tr):∃y∈T.tr,noV y=noV x:=by
 have:noV x∈U.tr.map noV:=List.mem_map.2 ⟨x,hx,rfl⟩;rw[h.tr] at this;exact List.mem_map.1 this
theorem Ok6.cop(h:Ok6 T)(c:CopT T U):Ok6 U:=by
 obtain⟨⟨h1,h2,h3,h4⟩,h5⟩:=h;refine⟨⟨by rw[c.ex];exact h1,by rw[c.th];exact h2,by rw[c.gu];exact h3,by rw[c.pa];exact h4⟩,fun x hx=>?_⟩;obtain⟨y,hy,e⟩:=Qch c hx;have:=h5 y hy;have e2:clT y=clT x:=congrArg (fun q=>q.2.2.2.2) e;rw[<-e2];exact this
theorem Qci(c:CopT T U)(i:Nat)(hi:i<10):lenP U i=lenP T i:=by
 have ht:=congrArg List.length c.tr;rw[Pr,Pr] at ht;match i,hi with
 | 0,_=>exact congrArg List.length c.st
 | 1,_=>exact congrArg List.length c.ro
 | 2,_=>exact congrArg List.length c.ca
 | 3,_=>exact congrArg List.length c.ex
 | 4,_=>exact ht
 | 5,_=>exact congrArg List.length c.fr
 | 6,_=>exact congrArg List.length c.th
 | 7,_=>exact congrArg List.length c.gu
 | 8,_=>exact congrArg List.length c.pa
 | 9,_=>exact congrArg List.length c.pr
theorem Jdw{α:Type}{enc:α->List Value}{w:World}{base k n:Nat}{T:TypeId}{v:Value}{l:List α}(h:w.ownsRow base T k v n (fl enc l))(hn:n=l.length):LstG enc w v l:=by
 subst hn;exact OwnG.lst (T:=T) (k:=k) (base:=base) h
theorem Pt.ttL{vs:List Value}{ts:List Tng}(h:Pt w0 vs ts T U N)(G:Gst w0 F 80 vs ts W)(hN:N<=1000000)(ok:Ok6 U):∃a c,(∀X:World,(∀(i:Nat) (r:Rw),ts[i]?=some (tRow w0.heap.size r)->r.At w0.heap.size X)->TtL X a c U)/\W.rangeAt F 2 [.slice (a 0) U.st.length (c 0),.slice (a 1) U.ro.length (c 1),.slice (a 2) U.ca.length (c 2),.slice (a 3) U.ex.length (c 3),.slice (a 4) U.tr.length (c 4),.slice (a 5) U.fr.length (c 5),.slice (a 6) U.th.length (c 6),.slice (a 7) U.gu.length (c 7),.slice (a 8) U.pa.length (c 8),.slice (a 9) U.pr.length (c 9),.int .i64 U.di,.int .i64 U.wi,.int .i64 U.cp]:=by
 have hx:∀i,∃q:Option Addr×Nat,i<10->vs[2+i]?=some (.slice q.1 (lenP U i) q.2)/\ts[i]?=some (tRow w0.heap.size ⟨(tyT i).1,(tyT i).2,.slice q.1 (lenP U i) q.2,lenP U i,xsT U i⟩):=fun i=>by
  by_cases hi:i<10
  ·obtain⟨v,t⟩:=h.tabs i hi
   obtain⟨A,c,rfl⟩:=t.slice G;exact⟨(A,c),fun _=>⟨t.cell,t.row⟩⟩
  ·exact⟨(none,0),fun q=>absurd q hi⟩
 obtain⟨q,hq⟩:=Classical.axiomOfChoice hx;refine⟨fun i=>(q i).1,fun i=>(q i).2,fun X hX=>?_,fun j v hv=>?_⟩
 ·have R:=fun i hi=>hX i _ (hq i hi).2
  refine⟨Jdw (R 0 Ka) rfl,Jdw (R 1 Ka) rfl,Jdw (R 2 Ka) rfl,Jdw (R 3 Ka) rfl,⟨Jdw (R 4 Ka) rfl,fun x hx=>?_⟩,Jdw (R 5 Ka) rfl,Jdw (R 6 Ka) rfl,Jdw (R 7 Ka) rfl,Jdw (R 8 Ka) rfl,Jdw (R 9 Ka) rfl⟩;obtain⟨j,hj,e⟩:=List.getElem_of_mem hx;have hr:=hX _ _ (h.calls j x (by rw[List.getElem?_eq_getElem hj,e]));exact⟨Jdw hr rfl,by have:=h.fewc x hx;omega,ok.2 x hx⟩
 ·refine(G.cell (i:=2+j) ?_).1
  match j with
  | 0=>cases hv;exact(hq 0 Ka).1
  | 1=>cases hv;exact(hq 1 Ka).1
  | 2=>cases hv;exact(hq 2 Ka).1
  | 3=>cases hv;exact(hq 3 Ka).1
  | 4=>cases hv;exact(hq 4 Ka).1
  | 5=>cases hv;exact(hq 5 Ka).1
  | 6=>cases hv;exact(hq 6 Ka).1
  | 7=>cases hv;exact(hq 7 Ka).1
  | 8=>cases hv;exact(hq 8 Ka).1
  | 9=>cases hv;exact(hq 9 Ka).1
  | 10=>cases hv;exact h.di
  | 11=>cases hv;exact h.wi
  | 12=>cases hv;exact h.cp
  | j+13=>simp at hv
theorem Gst.rows{X:World}{T:TypeId}{vs:List Value}{ts:List Tng}(G:Gst w0 F T vs ts W)(g:W.grownBy X (some b))(hb:b<w0.heap.size):∀(i:Nat) (r:Rw),ts[i]?=some (tRow w0.heap.size r)->r.At w0.heap.size X:=fun i r h=>by
 have hr:=G.row h;refine World.ownsRow.kept hr g ?_;cases hv:r.v.ownBlock with
 | none=>exact .inl rfl
 | some k =>
  refine .inr fun e=>?_
  have:=(World.ownsRow.lt hr k hv).1;cases e;omega
theorem J66(ls:List Bs):ls.length<=(Jax ls).length:=by
 induction ls with
 | nil=>exact Nat.le_refl _
 | cons x l ih =>
  have e:Jax (x::l)=x++[10]++Jax l:=rfl;rw[e,Pq,Pq,List.length_cons,List.length_cons,List.length_nil];omega
theorem Jdl{P:Program}{fn:Func}{p u v:Tmp}{ty:TypeId}(h:fn.results=#[.cell p ty,.tmp u,.tmp v])(tmps:Array Value)(w:World)(g:Nat)(t:TypeId)(cs:Array Value)(fr:Nat×Nat)(d:TypeDesc)
  (hp:tmps.getD p undef=.pointer (some ⟨g,0,none⟩)) (hg:w.heap[g]?=some (.cells cs t fr))
  (hu:P.underlying ty=some d) (hd:(match d with | .struct _ | .array _ _=>true | _=>false)=true) (hi:(P.info? ty).map (·.size)=some cs.size) :
  (results fn tmps).run P w=.ok (.tuple #[.agg cs,tmps.getD u undef,tmps.getD v undef]) w:=by
 have hp':tmps[p]?.getD undef=.pointer (some ⟨g,0,none⟩):=by simpa using hp
 simp[results,h,hp',asAddr,run_loadVar_row w g t ty cs fr d hg hu hd hi]
theorem Ja0{w:World}{i:Nat}{cs:Array Value}{fr:Nat×Nat}{v:Value}(h:w.heap[b]?=some (.cells cs t fr))(hv:cs[i]?=some v):w.setCell ⟨b,i,none⟩ v=w:=by
 have hi:=(Pn hv);obtain⟨hi,hv'⟩:=hi;have hc:cs.setIfInBounds i v=cs:=by
  apply Array.ext_getElem?
  intro j;rw[Array.getElem?_setIfInBounds];split
  ·next e=>subst e;exact hv.symm
  ·rfl
 have e:∀f:Obj->Obj,f (.cells cs t fr)=.cells cs t fr->w.heap.modify b f=w.heap:=fun f hf=>by
  apply Array.ext_getElem?
  intro j;rw[Array.getElem?_modify];split
  ·next e =>
   subst e;rw[h,Option.map_some,hf]
  ·rfl
 unfold World.setCell;rw[e _ (by show Obj.cells (cs.setIfInBounds i v) t fr=_;rw[hc])]
abbrev zT:Array Value:=#[.slice none 0 0,.slice none 0 0,.slice none 0 0,.slice none 0 0,.slice none 0 0,.slice none 0 0,.slice none 0 0,.slice none 0 0,.slice none 0 0,.slice none 0 0,.int .i64 0,.int .i64 0,.int .i64 0]
theorem Juv{w:World}(h:w.heap[b]?=some (.cells zT t (0,0))):w.cell? ⟨b,0,none⟩=some (.slice none 0 0)/\w.frozen? ⟨b,0,none⟩=false/\w.setCell ⟨b,0,none⟩ (.slice none 0 0)=w/\w.cell? ⟨b,1,none⟩=some (.slice none 0 0)/\w.frozen? ⟨b,1,none⟩=false/\w.setCell ⟨b,1,none⟩ (.slice none 0 0)=w/\w.cell? ⟨b,2,none⟩=some (.slice none 0 0)/\w.frozen? ⟨b,2,none⟩=false/\w.setCell ⟨b,2,none⟩ (.slice none 0 0)=w/\w.cell? ⟨b,3,none⟩=some (.slice none 0 0)/\w.frozen? ⟨b,3,none⟩=false/\w.setCell ⟨b,3,none⟩ (.slice none 0 0)=w/\w.cell? ⟨b,4,none⟩=some (.slice none 0 0)/\w.frozen? ⟨b,4,none⟩=false/\w.setCell ⟨b,4,none⟩ (.slice none 0 0)=w/\w.cell? ⟨b,5,none⟩=some (.slice none 0 0)/\w.frozen? ⟨b,5,none⟩=false/\w.setCell ⟨b,5,none⟩ (.slice none 0 0)=w/\w.cell? ⟨b,6,none⟩=some (.slice none 0 0)/\w.frozen? ⟨b,6,none⟩=false/\w.setCell ⟨b,6,none⟩ (.slice none 0 0)=w/\w.cell? ⟨b,7,none⟩=some (.slice none 0 0)/\w.frozen? ⟨b,7,none⟩=false/\w.setCell ⟨b,7,none⟩ (.slice none 0 0)=w/\w.cell? ⟨b,8,none⟩=some (.slice none 0 0)/\w.frozen? ⟨b,8,none⟩=false/\w.setCell ⟨b,8,none⟩ (.slice none 0 0)=w/\w.cell? ⟨b,9,none⟩=some (.slice none 0 0)/\w.frozen? ⟨b,9,none⟩=false/\w.setCell ⟨b,9,none⟩ (.slice none 0 0)=w/\w.cell? ⟨b,10,none⟩=some (.int .i64 0)/\w.frozen? ⟨b,10,none⟩=false/\w.setCell ⟨b,10,none⟩ (.int .i64 0)=w/\w.cell? ⟨b,11,none⟩=some (.int .i64 0)/\w.frozen? ⟨b,11,none⟩=false/\w.setCell ⟨b,11,none⟩ (.int .i64 0)=w/\w.cell? ⟨b,12,none⟩=some (.int .i64 0)/\w.frozen? ⟨b,12,none⟩=false/\w.setCell ⟨b,12,none⟩ (.int .i64 0)=w:=⟨U8,frozen_of_row _ _ _ _ _ h,Ja0 h rfl,U8,frozen_of_row _ _ _ _ _ h,Ja0 h rfl,U8,frozen_of_row _ _ _ _ _ h,Ja0 h rfl,U8,frozen_of_row _ _ _ _ _ h,Ja0 h rfl,U8,frozen_of_row _ _ _ _ _ h,Ja0 h rfl,U8,frozen_of_row _ _ _ _ _ h,Ja0 h rfl,U8,frozen_of_row _ _ _ _ _ h,Ja0 h rfl,U8,frozen_of_row _ _ _ _ _ h,Ja0 h rfl,U8,frozen_of_row _ _ _ _ _ h,Ja0 h rfl,U8,frozen_of_row _ _ _ _ _ h,Ja0 h rfl,U8,frozen_of_row _ _ _ _ _ h,Ja0 h rfl,U8,frozen_of_row _ _ _ _ _ h,Ja0 h rfl,U8,frozen_of_row _ _ _ _ _ h,Ja0 h rfl⟩
abbrev csT(a:Nat->Option Addr)(c:Nat->Nat)(T:Tt):Array Value:=#[.slice (a 0) T.st.length (c 0),.slice (a 1) T.ro.length (c 1),.slice (a 2) T.ca.length (c 2),.slice (a 3) T.ex.length (c 3),.slice (a 4) T.tr.length (c 4),.slice (a 5) T.fr.length (c 5),.slice (a 6) T.th.length (c 6),.slice (a 7) T.gu.length (c 7),.slice (a 8) T.pa.length (c 8),.slice (a 9) T.pr.length (c 9),.int .i64 T.di,.int .i64 T.wi,.int .i64 T.cp]
theorem J8v{w:World}{a:Nat->Option Addr}{c:Nat->Nat}(h:w.rangeAt F 2 [.slice (a 0) U.st.length (c 0),.slice (a 1) U.ro.length (c 1),.slice (a 2) U.ca.length (c 2),.slice (a 3) U.ex.length (c 3),.slice (a 4) U.tr.length (c 4),.slice (a 5) U.fr.length (c 5),.slice (a 6) U.th.length (c 6),.slice (a 7) U.gu.length (c 7),.slice (a 8) U.pa.length (c 8),.slice (a 9) U.pr.length (c 9),.int .i64 U.di,.int .i64 U.wi,.int .i64 U.cp]):w.cell? ⟨F,2,none⟩=some (.slice (a 0) U.st.length (c 0))/\w.cell? ⟨F,3,none⟩=some (.slice (a 1) U.ro.length (c 1))/\w.cell? ⟨F,4,none⟩=some (.slice (a 2) U.ca.length (c 2))/\w.cell? ⟨F,5,none⟩=some (.slice (a 3) U.ex.length (c 3))/\w.cell? ⟨F,6,none⟩=some (.slice (a 4) U.tr.length (c 4))/\w.cell? ⟨F,7,none⟩=some (.slice (a 5) U.fr.length (c 5))/\w.cell? ⟨F,8,none⟩=some (.slice (a 6) U.th.length (c 6))/\w.cell? ⟨F,9,none⟩=some (.slice (a 7) U.gu.length (c 7))/\w.cell? ⟨F,10,none⟩=some (.slice (a 8) U.pa.length (c 8))/\w.cell? ⟨F,11,none⟩=some (.slice (a 9) U.pr.length (c 9))/\w.cell? ⟨F,12,none⟩=some (.int .i64 U.di)/\w.cell? ⟨F,13,none⟩=some (.int .i64 U.wi)/\w.cell? ⟨F,14,none⟩=some (.int .i64 U.cp):=⟨h 0 _ rfl,h 1 _ rfl,h 2 _ rfl,h 3 _ rfl,h 4 _ rfl,h 5 _ rfl,h 6 _ rfl,h 7 _ rfl,h 8 _ rfl,h 9 _ rfl,h 10 _ rfl,h 11 _ rfl,h 12 _ rfl⟩
theorem Jfw(b:Nat):∀(l:List Value) (o:Nat) (w:World),w.grownBy (w.setCells b o l) (some b)
 | [],_,_=>Jbu Pg _
 | v::l,o,w=>(Jbs w b o v).trans (Jfw b l (o+1) _)
theorem set13{w:World}(h:w.heap[b]?=some (.cells zT t (0,0)))(v0 v1 v2 v3 v4 v5 v6 v7 v8 v9 v10 v11 v12:Value):(w.setCells b 0 [v0,v1,v2,v3,v4,v5,v6,v7,v8,v9,v10,v11,v12]).heap[b]?=some (.cells #[v0,v1,v2,v3,v4,v5,v6,v7,v8,v9,v10,v11,v12] t (0,0)):=by
 have h:=heap_setCell_same _ b 0 _ t v0 h;have h:=heap_setCell_same _ b 1 _ t v1 h;have h:=heap_setCell_same _ b 2 _ t v2 h;have h:=heap_setCell_same _ b 3 _ t v3 h;have h:=heap_setCell_same _ b 4 _ t v4 h;have h:=heap_setCell_same _ b 5 _ t v5 h;have h:=heap_setCell_same _ b 6 _ t v6 h;have h:=heap_setCell_same _ b 7 _ t v7 h;have h:=heap_setCell_same _ b 8 _ t v8 h;have h:=heap_setCell_same _ b 9 _ t v9 h;have h:=heap_setCell_same _ b 10 _ t v10 h;have h:=heap_setCell_same _ b 11 _ t v11 h;have h:=heap_setCell_same _ b 12 _ t v12 h;simp only[List.setIfInBounds_toArray,List.set_cons_zero,List.set_cons_succ] at h;simp only[World.setCells,Nat.zero_add,Nat.reduceAdd];exact h
theorem Jsd:(prog.info? 36).map (·.size)=some 13:=Kl
def PaR(F_:Fm)(s:Bs)(w:World)(e:Ending)(w':World):Prop:=∃a c U,e=.returned (.tuple #[ttV a c U,.int .i64 (Jfb F_ s).2.1,.int .i64 (Jfb F_ s).2.2])/\CopT (Jfb F_ s).1 U/\TtL w' a c U/\manT U=true/\OkTt U/\LnTt U/\Po w w'
theorem PaR.err{F_:Fm}{s:Bs}{w w':World}{n z:Int}(h:Jfb F_ s=(T0,n,z))(b:Po w w'):PaR F_ s w (.returned (.tuple #[.agg zT,.int .i64 n,.int .i64 z])) w':=by
 refine⟨fun _=>none,fun _=>0,T0,Yd,by rw[h];exact⟨rfl,rfl,rfl,rfl,rfl,rfl,rfl,rfl,rfl,rfl,rfl,rfl,rfl⟩,⟨LstG.nil _ _,LstG.nil _ _,LstG.nil _ _,LstG.nil _ _,⟨LstG.nil _ _,fun x h=>Qi⟩,LstG.nil _ _,LstG.nil _ _,LstG.nil _ _,LstG.nil _ _,LstG.nil _ _⟩,Kd,J2y.1,?_,b⟩;unfold LnTt T0;decide
theorem Qfh{s:Bs}(h:(linR s).2=0):(Jax (linR s).1).length<=65536:=by
 unfold linR at h |-;by_cases h1:65536<s.length
 ·rw[if_pos h1] at h;cases h
 ·rw[if_neg h1] at h |-
  by_cases h2:s=[]
  ·rw[if_pos h2];exact Nat.zero_le _
  ·rw[if_neg h2] at h |-
   by_cases h3:s[s.length - 1]?=some 10
   ·rw[if_pos h3]
    have:=(Qdw h2 h3 Ka).2.1;show(Jax (cutL s).1).length<=65536
    rw[this];omega
   ·rw[if_neg h3] at h;cases h
theorem J67{ls:List Bs}{n:Int}(h:Inv ls r n)(hc:(ttC r.T).2.2≠0):∃p:Nat,p<10/\(ttC r.T).1=(p:Int)/\(((ttC r.T).2.1<0/\r.fa=whr r (ttC r.T).1 (ttC r.T).2.1/\whr r (ttC r.T).1 (ttC r.T).2.1≠0)\/∃j:Nat,(ttC r.T).2.1=(j:Int)/\(r.ln.getD p [])[j]?=some (whr r (ttC r.T).1 (ttC r.T).2.1)):=by
 obtain⟨p,-,hp,e,hne⟩:=J8f 10 0 hc;have hp:p<10:=Ka;have e:ttC r.T=((p:Int),(Jam r.T p).1,(Jam r.T p).2):=e;refine⟨p,hp,by rw[e],?_⟩;rw[e];show((Jam r.T p).1<0/\r.fa=whr r (p:Int) (Jam r.T p).1/\whr r (p:Int) (Jam r.T p).1≠0)\/∃j:Nat,(Jam r.T p).1=(j:Int)/\(r.ln.getD p [])[j]?=some (whr r (p:Int) (Jam r.T p).1)
 unfold whr;rw[Int.toNat_natCast,h.len p hp];rcases J4r r.T p hne with⟨h0,h1⟩ | ⟨h9,hm,hz⟩
 ·right
  rw[if_neg Ka];have hi:(Jam r.T p).1.toNat<(r.ln.getD p []).length:=by rw[h.len p hp];omega
  refine⟨(Jam r.T p).1.toNat,Ka,?_⟩;rw[List.getD_eq_getElem?_getD (l:=r.ln.getD p []),List.getElem?_eq_getElem hi];rfl
 ·left
  rw[hm,if_pos (.inl Kd)];refine⟨Kd,rfl,fun h0=>hz (h.no h0)⟩
theorem Pa.on{W':World}(h:Pa w1 F r N W)(b:Po W W'):Pa w1 F r N W':=by
 obtain⟨vs,ts,U,lw,B,m,V,lx,G,rest⟩:=h;exact⟨vs,ts,U,lw,B,m,V,lx,G.on b,rest⟩
def LpI(F_:Fm)(w1:World)(F:Nat)(ls:List Bs)(k:Nat)(wr:World):Prop:=∃r N,N<=k/\Pa w1 F r N wr/\goR F_ ls 1 R0=goR F_ (ls.drop k) ((k:Int)+1) r/\Ok6 r.T/\Inv ls r ((k:Int)+1)
theorem Pa.low(h:Pa w1 F r N W):Po w1 W:=by
 obtain⟨vs,ts,U,lw,B,m,V,lx,G,_⟩:=h;exact G.base
theorem Pa.few(h:Pa w1 F r N W)(i:Nat)(hi:i<10):lenP r.T i<=N:=by
 obtain⟨vs,ts,U,lw,B,m,V,lx,G,_,PT,_⟩:=h;rw[<-Qci PT.cop i hi];exact PT.few i hi
theorem LpI.next{F_:Fm}(hB:FmB F_){w1 wr w3:World}{F N k:Nat}{ls:List Bs}{r:Rd}{x:Bs}(hN:N<=k)(hk:k<=65536)(P:Pa w1 F r N wr)(hg:goR F_ ls 1 R0=goR F_ (ls.drop k) ((k:Int)+1) r)(ok:Ok6 r.T)(iv:Inv ls r ((k:Int)+1))(hx:ls[k]?=some x)(h0:(oneR F_ r x ((k:Int)+1)).1=0){N':Nat}(hN':N'<=k+1)(P':Pa w1 F (oneR F_ r x ((k:Int)+1)).2 N' w3):LpI F_ w1 F ls (k+1) w3:=by
 have e1:ls.drop k=x::ls.drop (k+1):=by
  have hl:=(Pm hx);obtain⟨hl,e⟩:=hl;rw[List.drop_eq_getElem_cons hl,e]
 refine⟨_,N',hN',P',?_,Qcg F_ hB ok (fun i hi=>by have:=P.few i hi;omega) x _,?_⟩
 ·rw[hg,e1,Jt2,if_neg (fun q=>q h0)]
  congr 1
 ·have:=iv.on (F:=F_) Ka (x:=x) (by rw[show((k:Int)+1 - 1).toNat=k by omega];exact hx) (r':=(oneR F_ r x ((k:Int)+1)).2) (Prod.ext h0 rfl)
  exact this
theorem Qcj(F_:Fm)(hB:FmB F_){w:World}(FO:∀w',Po w w'->Fo F_ w')(hk:Jqf w)(s:Bs)(hs:s.length<=1099511627776):
  Calls prog 10 #[.string (str s)] w fun e w'=>PaR F_ s w e w':=by
 suffices h:∀Z:Ending->World->Prop,(∀e w',PaR F_ s w e w'->Z e w')->Calls prog 10 #[.string (str s)] w fun e w'=>Z e w' from h _ (fun _ _ h=>h)
 intro Z hZ;have HZ:=Pe hZ;clear hZ;obtain⟨wa,hwa⟩:=Pi (w.alloc (.cells zT 36 (0,0)));have ba:Po w wa:=by rw[<-hwa];exact(Below.refl _ _).alloc Ph _
 have ha:wa.heap[w.heap.size]?=some (.cells zT 36 (0,0)):=by rw[<-hwa];exact heap_alloc_new _ _
 have hla:wa.heap.size=w.heap.size+1:=by rw[<-hwa];simp
 obtain⟨ls,z,hz⟩:∃ls z,linR s=(ls,z):=⟨_,_,rfl⟩;have C0:=S4.flines_any (str s) Gv wa;rw[show S4.linesR (str s).data.toList=(ls,z) from hz] at C0;have C0:=Pe C0;have hzT:(prog.info? 36).map (·.size)=some zT.size:=Jsd;by_cases h0:z=0
 ·subst h0
  have hfe:Jfb F_ s=if(goR F_ ls 1 R0).2.1≠0 then(T0,(goR F_ ls 1 R0).1,(goR F_ ls 1 R0).2.1) else if(ttC (goR F_ ls 1 R0).2.2.T).2.2≠0 then(T0,whr (goR F_ ls 1 R0).2.2 (ttC (goR F_ ls 1 R0).2.2.T).1 (ttC (goR F_ ls 1 R0).2.2.T).2.1,(ttC (goR F_ ls 1 R0).2.2.T).2.2) else((goR F_ ls 1 R0).2.2.T,0,0):=by
   unfold Jfb;rw[hz,if_neg (fun q=>q rfl)]
  have hl5:=Qfh (s:=s) (by rw[hz]);rw[hz] at hl5;have hl5:(Jax ls).length<=65536:=hl5;have hll:ls.length<=65536:=Nat.le_trans (J66 ls) hl5;have hxl:∀x∈ls,x.length<=65536:=fun x hx=>Nat.le_trans (Jpa hx) hl5
  clear hz;generalize str s=ss at C0 |-;go_enter func10,ntmps10;go_wp2_with fail;refine C0.out.mono ?_;rintro q w1 ⟨v,rfl,ho,hb⟩;dsimp only at ho |-;obtain⟨A0,c0,rfl,-,-,hcl⟩:=Jb8 ho;have HC:=Pe hcl;have r1:w1.heap[w.heap.size]?=some (.cells zT 36 (0,0)):=(hb.block _ Ka).trans ha;have hl1:w.heap.size<w1.heap.size:=by have:=hb.size;omega
  have B1:Po w w1:=ba.trans (hb.mono Ka);have FO1:=FO w1 B1;have HR:=Pe (And.intro r1 (And.intro hl1 (And.intro B1 FO1)));have NW:=Pe (Qca w1);clear C0 ho hb B1 ba ha hla hwa hcl r1 hl1 FO1 FO;go_wp2_with fail;refine NW.out.mono ?_;rintro q w2 ⟨rfl,hp⟩;obtain⟨F,hF⟩:=Pi (w1.heap.size+5);rw[hF] at hp |-;have I0:Hid (LpI F_ w1 F ls 0 w2):=Pe ⟨R0,0,Nat.le_refl _,hp,rfl,J2y,Inv.start ls⟩;clear hp NW;have HFE:=Pe hfe;have HK:=Pe hk;have HX:=Pe hxl;have HZT:=Pe hzT;have HF:=Pe hF;clear hfe hk hxl hzT hF;go_wp2_with fail;go_loopw [26] (fun i wr=>∃k:Nat,i=.int .i64 k/\k<=ls.length/\Hid (LpI F_ w1 F ls k wr)) (fun i _=>ls.length - (intOf i).toNat);case atStart=>exact⟨0,rfl,Nat.zero_le _,I0⟩
  case round =>
   obtain⟨k,rfl,hk,LI⟩:=hrel;by_cases hlt:k<ls.length
   ·obtain⟨x,hx⟩:=Jng hlt
    obtain⟨g,rfl,-,hg1,hcell⟩:=HC.out Ka;have m1:wr.cell? ⟨g,k,none⟩=some (.string (str x)):=by
     obtain⟨r,N,hN,P,hg,ok,iv⟩:=LI.out;have:=hcell k _ (J2s hx);rw[Nat.zero_add] at this;rw[<-this];unfold World.cell?;rw[P.low.block g hg1]
    have gk:(k:Int)<(ls.length:Int):=Ka;have CI:=Qcb x;have hk':=hlt;clear hcell;cases hi:ign x with
    | true =>
     rw[hi] at CI;have CI:=Pe CI;have K2:Hid (LpI F_ w1 F ls (k+1) wr):=Pe (by
      obtain⟨r,N,hN,P,hg,ok,iv⟩:=LI.out;have e:oneR F_ r x ((k:Int)+1)=(0,r):=by unfold oneR;rw[hi];rfl
      exact LpI.next hB hN Ka P hg ok iv hx (by rw[e]) (N':=N) Ka (by rw[e];exact P))
     clear hx hi LI I0;generalize str x=sx at m1 CI;go_wp2_with fail;refine(CI.out _).mono ?_;rintro e w' ⟨rfl,rfl⟩;go_wp2_with fail;go_roundw;case rel=>exact⟨k+1,Kj,Ka,K2⟩
     case measure=>exact Q7
    | false =>
     rw[hi] at CI;have CI:=Pe CI;obtain⟨r,N,hN,P,hg,ok,iv⟩:=LI.out;have CR:=Qb8 F_ HR.out.2.2.2 P Ka x (HX.out x (List.mem_of_getElem? hx)) hi ((k:Int)+1) Ka;by_cases h1:(oneR F_ r x ((k:Int)+1)).1=0
     ·rw[h1] at CR
      have NX:=Pe (fun w3 (P':Pa w1 F (oneR F_ r x ((k:Int)+1)).2 (N+1) w3)=>LpI.next hB hN Ka P hg ok iv hx h1 Ka P');have CR:=Pe CR;clear hx hi LI I0 P hg ok iv h1;generalize str x=sx at m1 CI CR;go_wp2_with fail;refine(CI.out _).mono ?_;rintro e w' ⟨rfl,rfl⟩;go_wp2_with fail;refine CR.out.mono ?_;rintro e w3 ⟨rfl,-,hp3⟩;have K2:=Pe (NX.out w3 (hp3 trivial));clear hp3 CR NX CI m1;go_wp2_with fail;go_roundw;case rel=>exact⟨k+1,Kj,Ka,K2⟩
      case measure=>exact Q7
     ·have hfe:Jfb F_ s=(T0,(k:Int)+1,(oneR F_ r x ((k:Int)+1)).1):=by
       have e1:ls.drop k=x::ls.drop (k+1):=by
        obtain⟨hl,e⟩:=Pm hx;rw[List.drop_eq_getElem_cons hl,e]
       have e2:goR F_ ls 1 R0=((k:Int)+1,(oneR F_ r x ((k:Int)+1)).1,(oneR F_ r x ((k:Int)+1)).2):=by rw[hg,e1,Jt2,if_pos h1]
       rw[HFE.out,e2,if_pos h1]
      obtain⟨zz,hzz⟩:=Pi ((oneR F_ r x ((k:Int)+1)).1);rw[hzz] at CR hfe h1;have CR:=Pe CR;have HP:=Pe (fun w' (b:Po w w')=>PaR.err (w:=w) (w':=w') hfe b);have hzT:=HZT.out;clear hx hi LI I0 P hg ok iv hzz hfe;generalize str x=sx at m1 CI CR;go_wp2_with fail;refine(CI.out _).mono ?_;rintro e w' ⟨rfl,rfl⟩;go_wp2_with fail;refine CR.out.mono ?_;rintro e w3 ⟨rfl,hb3,-⟩;have r0:w3.heap[w.heap.size]?=some (.cells zT 36 (0,0)):=(hb3.block _ HR.out.2.1).trans HR.out.1;have R1:=Pe (HZ.out _ _ (HP.out w3 (HR.out.2.2.1.trans (hb3.mono Wa8))));clear hb3 CR CI m1;obtain⟨y0,z0,x0,y1,z1,x1,y2,z2,x2,y3,z3,x3,y4,z4,x4,y5,z5,x5,y6,z6,x6,y7,z7,x7,y8,z8,x8,y9,z9,x9,y10,z10,x10,y11,z11,x11,y12,z12,x12⟩:=Juv r0;go_wp2_with fail
      (try simp only[Exit.inBlock,Exit.then]);refine bodyPost_ret (Jdl rfl _ _ w.heap.size 36 zT (0,0) _ rfl r0 underlying36 rfl hzT) rfl ?_
      exact R1.out
   ·obtain rfl:k=ls.length:=Ka
    have gk:decide ((ls.length:Int)<(ls.length:Int))=false:=Ke;obtain⟨r,N,hN,P,hg,ok,iv⟩:=LI.out;have hgo:goR F_ ls 1 R0=(0,0,r):=by rw[hg,List.drop_length];rfl
    have hfr:=Qem F_ ls 1 R0 (by rw[hgo]);rw[hgo] at hfr;have hfr:r.T.fr.length*14<=0*14+(Jax ls).length:=hfr;have P':=P;obtain⟨vs,ts,U,lw,B,m,V,lx,G,e1,PT,L,hcl⟩:=P';have okU:=ok.cop PT.cop;obtain⟨a,c,hX,hrg⟩:=PT.ttL G Ka okU;have man:manT U=true:=by
     refine Jbj.2 ⟨?_,fun x hx=>?_⟩
     ·have f0:=PT.few 0 Ka
      have f1:=PT.few 1 Ka;have f2:=PT.few 2 Ka;have f3:=PT.few 3 Ka;have f4:=PT.few 4 Ka;have f5:U.fr.length*14<=65536:=by rw[PT.cop.fr];omega
      have f6:=PT.few 6 Ka;have f7:=PT.few 7 Ka;have f8:=PT.few 8 Ka;have f9:=PT.few 9 Ka;simp only[lenP] at f0 f1 f2 f3 f4 f6 f7 f8 f9;unfold manN;omega
     ·have:=PT.fewc x hx
      unfold clT;omega
    have ln:LnTt U:=by
     have h:=(Jbj.1 man).1;unfold manN at h;unfold LnTt;omega
    have CC:=ckM a c U wr man okU.1 ln (hX wr (fun i r h=>G.row h));rw[PT.cop.ttC] at CC;have r0:wr.heap[w.heap.size]?=some (.cells zT 36 (0,0)):=(G.base.block _ HR.out.2.1).trans HR.out.1;obtain⟨q0,q1,q2,q3,q4,q5,q6,q7,q8,q9,q10,q11,q12⟩:=J8v hrg;by_cases hc:(ttC r.T).2.2=0
    ·have hf2:Jfb F_ s=(r.T,0,0):=by rw[HFE.out,hgo,if_neg (fun q=>q rfl),if_neg (fun q=>q hc)]
     rw[hc] at CC;have CC:=Pe CC;generalize (ttC r.T).1=t1 at CC;generalize (ttC r.T).2.1=t2 at CC;have HG:=Pe (And.intro hrg (And.intro r0 G));clear hrg hg hgo hfr LI I0 P e1 L hcl r0 G;go_wp2_with fail;refine CC.out.mono ?_;rintro e w4 ⟨rfl,hb4⟩;clear q0 q1 q2 q3 q4 q5 q6 q7 q8 q9 q10 q11 q12;have G4:=HG.out.2.2.on hb4;have r4:w4.heap[w.heap.size]?=some (.cells zT 36 (0,0)):=(hb4.block _ (Ps HR.out.2.1 HG.out.2.2.base.size)).trans HG.out.2.1;obtain⟨q0,q1,q2,q3,q4,q5,q6,q7,q8,q9,q10,q11,q12⟩:=J8v (w:=w4) (F:=F) (a:=a) (c:=c) (U:=U) (fun j v hj=>by
      rw[<-HG.out.1 j v hj];unfold World.cell?;rw[hb4.block F HG.out.2.2.lt])
     obtain⟨y0,z0,x0,y1,z1,x1,y2,z2,x2,y3,z3,x3,y4,z4,x4,y5,z5,x5,y6,z6,x6,y7,z7,x7,y8,z8,x8,y9,z9,x9,y10,z10,x10,y11,z11,x11,y12,z12,x12⟩:=Juv r4;clear x0 x1 x2 x3 x4 x5 x6 x7 x8 x9 x10 x11 x12;go_wp2_with fail;have g5:=Jfw w.heap.size [.slice (a 0) U.st.length (c 0),.slice (a 1) U.ro.length (c 1),.slice (a 2) U.ca.length (c 2),.slice (a 3) U.ex.length (c 3),.slice (a 4) U.tr.length (c 4),.slice (a 5) U.fr.length (c 5),.slice (a 6) U.th.length (c 6),.slice (a 7) U.gu.length (c 7),.slice (a 8) U.pa.length (c 8),.slice (a 9) U.pr.length (c 9),.int .i64 U.di,.int .i64 U.wi,.int .i64 U.cp] 0 w4;have s5:=set13 r4 (.slice (a 0) U.st.length (c 0)) (.slice (a 1) U.ro.length (c 1)) (.slice (a 2) U.ca.length (c 2)) (.slice (a 3) U.ex.length (c 3)) (.slice (a 4) U.tr.length (c 4)) (.slice (a 5) U.fr.length (c 5)) (.slice (a 6) U.th.length (c 6)) (.slice (a 7) U.gu.length (c 7)) (.slice (a 8) U.pa.length (c 8)) (.slice (a 9) U.pr.length (c 9)) (.int .i64 U.di) (.int .i64 U.wi) (.int .i64 U.cp);simp only[World.setCells,Nat.zero_add,Nat.reduceAdd] at g5 s5;have T5:=hX _ (Gst.rows G4 g5 HR.out.2.1);have B5:=Jdc (HR.out.2.2.1.trans (G4.base.mono Wa8)) g5 (fun k e=>by cases e;exact Nat.le_refl _)
     (try simp only[Exit.inBlock,Exit.then]);refine bodyPost_ret (Jdl rfl _ _ w.heap.size 36 (csT a c U) (0,0) _ rfl s5 underlying36 rfl Jsd) rfl ?_
     exact HZ.out _ _ ⟨a,c,U,by rw[hf2];rfl,by rw[hf2];exact PT.cop,T5,man,okU.1,ln,B5⟩
    ·obtain⟨p,hp,ep,hw⟩:=J67 iv hc
     have hf2:Jfb F_ s=(T0,whr r (ttC r.T).1 (ttC r.T).2.1,(ttC r.T).2.2):=by rw[HFE.out,hgo,if_neg (fun q=>q rfl),if_pos hc]
     obtain⟨y,hy⟩:=Pi (whr r (ttC r.T).1 (ttC r.T).2.1);rw[hy] at hw hf2;rw[ep] at CC;clear hy;generalize (ttC r.T).2.1=t2 at CC hw hf2;generalize (ttC r.T).2.2=t3 at CC hc hf2;have CC:=Pe CC;have LO:=Pe (fun w4 (hb4:Po wr w4)=>Qcd (P.on hb4) (HK.out.below (HR.out.2.2.1.trans ((P.on hb4).low.mono Wa8))) p hp t2 y hw);have HP:=Pe (fun w' (b:Po w w')=>PaR.err (w:=w) (w':=w') hf2 b);have HG:=Pe (And.intro r0 G.base);clear hrg hg hgo hfr LI I0 P e1 L hcl r0 G hw hf2 man ln okU hX PT ok iv;go_wp2_with fail;refine CC.out.mono ?_;rintro e w4 ⟨rfl,hb4⟩;clear q0 q1 q2 q3 q4 q5 q6 q7 q8 q9 q10 q11 q12;have LO:=Pe (LO.out w4 hb4);have hl:=HG.out.2.size;have r4:w4.heap[w.heap.size]?=some (.cells zT 36 (0,0)):=(hb4.block _ (Ps HR.out.2.1 hl)).trans HG.out.1;have B4:Po w w4:=HR.out.2.2.1.trans ((HG.out.2.trans (hb4.mono hl)).mono Wa8);have H4:=Pe (And.intro r4 (And.intro B4 (Ps HR.out.2.1 (Nat.le_trans hl hb4.size))));clear r4 B4 hl hb4;go_wp2_with fail;refine LO.out.mono ?_;rintro e w5 ⟨rfl,hb5⟩;have r5:w5.heap[w.heap.size]?=some (.cells zT 36 (0,0)):=(hb5.block _ H4.out.2.2).trans H4.out.1;have R1:=Pe (HZ.out _ _ (HP.out w5 (H4.out.2.1.trans (hb5.mono (Nat.le_of_lt H4.out.2.2)))));obtain⟨y0,z0,x0,y1,z1,x1,y2,z2,x2,y3,z3,x3,y4,z4,x4,y5,z5,x5,y6,z6,x6,y7,z7,x7,y8,z8,x8,y9,z9,x9,y10,z10,x10,y11,z11,x11,y12,z12,x12⟩:=Juv r5;clear LO hb5;go_wp2_with fail
     (try simp only[Exit.inBlock,Exit.then]);refine bodyPost_ret (Jdl rfl _ _ w.heap.size 36 zT (0,0) _ rfl r5 underlying36 rfl Jsd) rfl ?_
     exact R1.out
 ·have hfe:Jfb F_ s=(T0,0,z):=by unfold Jfb;rw[hz,if_pos h0]
  generalize str s=ss at C0 |-;go_enter func10,ntmps10;go_wp2_with fail;refine C0.out.mono ?_;rintro q w1 ⟨v,rfl,ho,hb⟩;dsimp only at ho |-;obtain⟨A0,c0,rfl,-⟩:=Jb8 ho;have r0:w1.heap[w.heap.size]?=some (.cells zT 36 (0,0)):=(hb.block _ Ka).trans ha;have B1:Po w w1:=ba.trans (hb.mono Ka);have R1:=Pe (HZ.out _ _ (PaR.err hfe B1));clear C0 ho hb B1 ba ha hla hwa;obtain⟨y0,z0,x0,y1,z1,x1,y2,z2,x2,y3,z3,x3,y4,z4,x4,y5,z5,x5,y6,z6,x6,y7,z7,x7,y8,z8,x8,y9,z9,x9,y10,z10,x10,y11,z11,x11,y12,z12,x12⟩:=Juv r0;go_wp2_with fail
  (try simp only[Exit.inBlock,Exit.then]);refine bodyPost_ret (Jdl rfl _ _ w.heap.size 36 zT (0,0) _ rfl r0 underlying36 rfl hzT) rfl ?_
  exact R1.out
open Go
def Jeo(w:World):Prop:=S2.Good w/\S3.Good w/\S15.GoodR w/\Jqf w
theorem Jeo.below{w w':World}(h:Jeo w)(b:Po w w'):Jeo w':=⟨h.1.below b,h.2.1.below b,h.2.2.1.below b,h.2.2.2.below b⟩
theorem J68(l:Bs)(w:World):Pc 254 #[.string (str l)] w (.tuple #[.int .i64 (Jvp l).1,.int .i64 (Jvp l).2]):=by
 unfold Jvp;by_cases hf:Jch l=true
 ·rw[if_pos hf]
  by_cases hp:Jj1 (Jcc l 0) (Jcc l 3) (Jcc l 6)
  ·rw[if_pos hp];exact J0j (str l) hf hp w
  ·rw[if_neg hp];exact Jvv (str l) hf hp w
 ·rw[if_neg hf];exact Jpe (str l) (by simpa using hf) w
theorem Juw(s:Bs):∀(l:List Bs) (k:Nat),(fdF (isN s) k l=-1/\l.findIdx? (fun x=>decide (x=s))=none)\/∃j:Nat,fdF (isN s) k l=(k:Int)+(j:Int)/\l.findIdx? (fun x=>decide (x=s))=some j
 | [],_=>.inl ⟨rfl,rfl⟩
 | x::l,k=>by
  unfold fdF;rw[List.findIdx?_cons];by_cases h:x=s
  ·have e:isN s x=true:=Pk h
   rw[if_pos e,if_pos (Pk h)];exact .inr ⟨0,Ke,rfl⟩
  ·have e:¬isN s x=true:=fun q=>h (of_decide_eq_true q)
   rw[if_neg e,if_neg (fun q=>h (of_decide_eq_true q))];rcases Juw s l (k+1) with⟨h1,h2⟩ | ⟨j,h1,h2⟩
   ·exact .inl ⟨h1,by rw[h2];rfl⟩
   ·exact .inr ⟨j+1,by rw[h1];omega,by rw[h2];rfl⟩
theorem J2z(s:Bs):(fnd 3 nmL s).1=max (Jer s) 0/\decide ((fnd 3 nmL s).2=0)=decide (0<=Jer s):=by
 unfold Jer fdT fnd;rcases Juw s nmL 0 with⟨h1,h2⟩ | ⟨j,h1,h2⟩
 ·rw[h1,h2];exact V4
 ·rw[h1,h2]
  refine⟨?_,?_⟩
  ·show(j:Int)=max ((0:Nat)+(j:Int)) 0
   omega
  ·show decide ((0:Int)=0)=decide (0<=((0:Nat):Int)+(j:Int))
   rw[Pk rfl,Pk Ka]
theorem Qfi(hg:Jeo w0):Fo fmR w0 where
 num:=fun a ha w b=>S3.parse_any a Ka w (hg.below b).2.1
 prc:=fun a ha w b=>S3.pprice_any a Ka w (hg.below b).2.1
 tim:=fun a _ w _=>J68 a w
 dur:=fun a ha w _=>S1.parseDur_any a Ka w
 day:=fun a _ w b=>S2.dparse_any (str a) w (hg.below b).1
 mds:=fun a ha w b=>(S15.kprs_any a _ rfl Ka w (hg.below b).2.2.1).mono fun e w' h=>⟨h.1,Uy⟩
 mode:=fun a _ w b=>(S15.parse_any a _ rfl w (hg.below b).2.2.1).mono fun e w' h=>⟨by rw[(J2z a).1,(J2z a).2];exact h.1,Uy⟩
theorem Qfj(l:Bs):B64 (S2.dayR l).1:=by
 unfold S2.dayR;split
 ·split
  ·next h =>
   obtain⟨h1,h2,h3,h4,h5,h6⟩:=h;show B64 (S2.dayOf _ _ _)
   generalize (S2.val4 l:Int)=y at *;generalize (Jcc l 5:Int)=m at *;generalize (Jcc l 8:Int)=d at *;unfold S2.dayOf;have e1:=S2.bef_at (y - 2000).toNat (m - 1).toNat Ka;have e2:=S2.bef_succ (12*(y - 2000).toNat+(m - 1).toNat);have e3:=S2.bef_le (show 12*(y - 2000).toNat+(m - 1).toNat+1<=1200 by omega);have e4:S2.mon (12*(y - 2000).toNat+(m - 1).toNat)=S2.monN (y - 2000).toNat (m - 1).toNat:=by
    unfold S2.mon;rw[show(12*(y - 2000).toNat+(m - 1).toNat) / 12=(y - 2000).toNat by omega,show(12*(y - 2000).toNat+(m - 1).toNat) % 12=(m - 1).toNat by omega]
   rw[S2.bef_end] at e3;constructor <;> omega
  ·exact Wa6
 ·exact Wa6
theorem Qfk(l:Bs):B64 (Jvp l).1:=by
 unfold Jvp;split
 ·split
  ·next h =>
   unfold Jj1 at h;exact Wa4
  ·exact Wa6
 ·exact Wa6
theorem Qck{l:Bs}(h:digs l=true)(hl:l.length<=2):valN l<100:=by
 have:=Jlk l h;have h2:10 ^ l.length<=10 ^ 2:=Nat.pow_le_pow_right Kd hl;omega
theorem Qfl(l:Bs):B64 (durR l).1:=by
 unfold durR;split
 ·unfold Jjb
  split
  ·unfold Jgn
   split
   ·next h =>
    obtain⟨-,h1,h2,h3⟩:=h;split
    ·exact Wa6
    ·next h4 =>
     have a:=Qck ((Jd1 _).1 h3).2.2 Ka;have b:=((Jdo _).1 h1).2.2;have c:=((Jdo _).1 h2).2.2;exact Wa4
   ·exact Wa6
  ·split
   ·unfold Jeu
    split
    ·next h =>
     have b:=((Jeb _).1 h.1).2.2;have c:=((Jdo _).1 h.2).2.2;exact Wa4
    ·exact Wa6
   ·split
    ·exact Wa6
    ·split
     ·next h =>
      have b:=((Jeb _).1 h).2.2;exact⟨by show -9223372036854775808<=((_:Nat):Int);omega,by show((_:Nat):Int)<=(9223372036854775807:Int);omega⟩
     ·exact Wa6
 ·exact Wa6
theorem Qcl:FmB fmR:=⟨Qfk,Qfl,Qfj⟩
theorem Jli{w:World}(hg:Jeo w)(s:Bs)(hs:s.length<=1099511627776):Calls prog 10 #[.string (str s)] w fun e w'=>PaR fmR s w e w' :=
 Qcj fmR Qcl (fun _ b=>Qfi (hg.below b)) hg.2.2.2 s hs
def s1(x:Bs):List Value:=[.string (str x)]
theorem Qfm(x:Bs):(s1 x).length=1:=rfl
theorem J20:(prog.info? 9).map (fun i=>(i.zero,i.size,i.bytes))=some (some (.string ⟨#[]⟩),1,16):=Kl
def Wst(w0:World)(F:Nat)(ls:List Bs)(W:World):Prop:=∃v,Gst w0 F 125 [v] [tRow w0.heap.size ⟨9,1,v,ls.length,fl s1 ls⟩] W
def Wsx(w0:World)(F:Nat)(ls:List Bs)(xs:List Tng)(W:World):Prop:=∃v,Gst w0 F 125 [v] (tRow w0.heap.size ⟨9,1,v,ls.length,fl s1 ls⟩::xs) W
theorem Jfm(s:ByteArray)(n:Int)(w:World):Calls prog 145 #[.string s,.int .i64 n] w fun e w'=>e=.returned (.string s)/\w'=w:=by
 go_enter func145,ntmps145;exact Kc
theorem Qfn{ls:List Bs}{xs:List Tng}(h:Wsx w0 F ls xs W)(hl:ls.length<=1000000)(f:Value)(fs:List Bs)(hf:Lst W f fs)(hn:fs.length<=64)(hx:∀x∈fs,x.length<=16384):
  Calls prog 134 #[.pointer (some ⟨F,0,none⟩),f] W fun e w'=>e=.returned (.tuple #[])/\Wsx w0 F (ls++[(S4.joinR fs).1]) xs w':=by
 suffices hs:∀Z:World->Prop,(∀w',Wsx w0 F (ls++[(S4.joinR fs).1]) xs w'->Z w')->Calls prog 134 #[.pointer (some ⟨F,0,none⟩),f] W fun e w'=>e=.returned (.tuple #[])/\Z w' from hs _ (fun _ h=>h)
 intro Z hZ;have HZ:=Pe hZ;clear hZ;obtain⟨v,G⟩:=h;obtain⟨A0,c0,hv0,-⟩:=Jb8 (G.row (i:=0) rfl);have hv0:v=.slice A0 ls.length c0:=hv0;subst hv0;obtain⟨W1,hW1⟩:=Pi (World.drew W);have bd:Po W W1:=by rw[<-hW1];exact(Below.refl _ _).drew
 have G1:=G.on bd;have hf1:Lst W1 f fs:=hf.below bd;have C0:=Pe (S4.fjoin_any f fs Ka hx W1 hf1);have S0:∀X,Gst w0 F 125 [.slice A0 ls.length c0] (tRow w0.heap.size ⟨9,1,.slice A0 ls.length c0,ls.length,fl s1 ls⟩::xs) X->X.cell? ⟨F,0,none⟩=some (.slice A0 ls.length c0):=fun X h=>(h.cell (i:=0) rfl).1
 generalize S4.joinR fs=jr at C0 HZ;obtain⟨ln,er⟩:=jr;dsimp only at C0 HZ;clear hf hf1 hx bd G;go_enter func134,ntmps134;go_wp2_with fail;refine Jei (S:=fun X=>X.cell? ⟨F,0,none⟩=some (.slice A0 ls.length c0)) _ 15 14 rfl Kl Kl Kl (Jbl 15 0) Kl ?_;rw[hW1];refine Jd2 (L:=[(0,4,pt F 0),(1,5,pt F 0),(2,6,pt F 0),(3,7,pt F 0),(4,8,.slice A0 ls.length c0),(5,9,f)]) rfl (.q (.q (.q (.q (.cons rfl rfl (.inl ⟨rfl,fun _ h=>Wam⟩) (.q .nil)))))) [0,1,2,3,4,5] rfl rfl Kl (fun _ _ _ _ _ h=>h) (S0 _ G1) ?_;refine Qec (i:=6) (R:=fun u X=>u=.tuple #[.string (str ln),.int .i64 er]/\Po W1 X) 10 _ rfl Kl rfl rfl rfl Kl (C0.out.mono fun e w' h=>⟨_,h.1,rfl,h.2⟩) ?_;rintro u w2 ⟨rfl,b2⟩;have G2:=G1.on b2;refine⟨S0 _ G2,?_⟩;refine Jd2 (L:=[(7,11,.string (str ln)),(8,12,.int .i64 er)]) rfl (.q (.q .nil)) [7,8] rfl rfl Kl (fun _ _ _ _ _ h=>h) (S0 _ G2) ?_;refine Qec (i:=9) (R:=fun u X=>u=.string (str ln)/\X=w2) 13 _ rfl Kl rfl rfl rfl Kl ((Jfm (str ln) er w2).mono fun e w' h=>⟨_,h.1,rfl,h.2⟩) ?_;rintro u w3 ⟨rfl,rfl⟩;refine⟨S0 _ G2,?_⟩;obtain⟨w6,h6⟩:=Pi (w3.alloc (.cells #[.string (str ln)] 9 (0,0)));have G6:=G2.on (W':=w6) Wac;have y6:=heap_alloc_new w3 (.cells #[.string (str ln)] 9 (0,0));rw[h6] at y6;refine Jda (i:=10) (v:=.slice (some ⟨w3.heap.size,0,none⟩) 1 1) (w':=w6) 14 _ rfl Kl rfl rfl rfl Wah (S0 _ G6) rfl ?_;obtain⟨v7,w7,hr7,o7,g7,p7⟩:=Jcj (enc:=s1) Qfm Kd underlying66 J20 rfl Kd w6 66 w0.heap.size (.slice A0 ls.length c0) ls ln (fun u hu=>by simp only[s1,List.mem_cons,List.not_mem_nil,or_false] at hu;subst hu;rfl) (G6.row (i:=0) rfl) _ _ y6 rfl G6.base.size Ka;obtain⟨A7,c7,e7,-⟩:=Jb8 o7;subst e7;have G7:=G6.turn (i:=0) (t':=tRow w0.heap.size ⟨9,1,.slice A7 (ls++[ln]).length c7,(ls++[ln]).length,fl s1 (ls++[ln])⟩) rfl g7 (tRow.at o7) p7;refine Jda (i:=11) (v:=.slice A7 (ls++[ln]).length c7) (w':=w7) 15 _ rfl Kl rfl rfl rfl (Ja9 (s:=.tmp 8) (x:=.tmp 14) (ST:=66) Kl Kl Kl hr7) (G7.cell (i:=0) rfl).1 rfl ?_;refine Jh7 (L:=[(12,16,pt F 0),(13,17,pt F 0)]) (.q (.q .nil)) [12,13] rfl rfl Kl (G7.cell (i:=0) rfl).1 ?_;obtain⟨k0,k1⟩:=G7.cell (i:=0) rfl;refine Jej (w':=w7.setCell ⟨F,0,none⟩ (.slice A7 (ls++[ln]).length c7)) _ rfl Kl rfl rfl rfl Waa ?_;refine Jhw Kl ?_;have GE:=Pe (HZ.out _ ⟨_,G7.put 0 (.slice A7 (ls++[ln]).length c7)⟩);clear G7 G6 G2 G1 k0 k1 hr7 o7 g7 p7 y6 h6 S0;generalize w7.setCell ⟨F,0,none⟩ (.slice A7 (ls++[ln]).length c7)=w8 at GE |-;go_wp2_with fail;go_end0;exact⟨rfl,GE.out⟩
def Wrs(w0:World)(F:Nat)(R:List (List Bs))(W:World):Prop:=Wst w0 F (R.map Jan) W
structure Fw (F_:Fm) (w0:World):Prop where
 num:∀n,-9223372036854775808<=n->n<=9223372036854775807->∀w:World,Po w0 w->Pc 135 #[.int .i64 n] w (.string (str (F_.numT n)))
 prc:∀n,0<=n->n<=1000000->∀w:World,Po w0 w->Pc 225 #[.int .i64 n] w (.tuple #[.string (str (F_.prcT n)),.int .i64 0])
 tim:∀n,0<=n->n<=172800->∀w:World,Po w0 w->Pc 223 #[.int .i64 n] w (.tuple #[.string (str (F_.timT n)),.int .i64 0])
 dur:∀n,0<=n->n<=86400->∀w:World,Po w0 w->Pc 224 #[.int .i64 n] w (.tuple #[.string (str (F_.durT n)),.int .i64 0])
 day:∀n,0<=n->n<=36524->∀w:World,Po w0 w->Pc 222 #[.int .i64 n] w (.tuple #[.string (str (F_.dayT n)),.int .i64 0])
 mds:∀n,0<=n->n<=255->∀w:World,Po w0 w->Pc 146 #[.int .i64 n] w (.tuple #[.string (str (F_.mdsT n)),.int .i64 0])
 mode:∀m:Nat,m<8->∀w:World,Po w0 w->Pc 137 #[.int .i64 (m:Int)] w (.tuple #[.string (str (nmR m)),.bool true])
theorem Jlj(b:Bool)(x y:ByteArray)(w:World):Calls prog 140 #[.bool b,.string x,.string y] w fun e w'=>e=.returned (.string (if b then x else y))/\w'=w:=by
 cases b with
 | true =>
  go_enter func140,ntmps140;exact Kc
 | false =>
  go_enter func140,ntmps140;exact Kc
theorem Jg3(b:Bool)(w:World):Calls prog 136 #[.bool b] w fun e w'=>e=.returned (.string (str (flgT b)))/\w'=w:=by
 have C:=Pe (Jlj b (str wYes) (str wNo) w);have e:(if b then str wYes else str wNo)=str (flgT b):=by cases b <;> rfl
 rw[e] at C;generalize str (flgT b)=s at C |-;go_enter func136,ntmps136;go_wp2_with fail;refine C.out.mono ?_;rintro r w1 ⟨rfl,rfl⟩;exact Kc
section
variable {w:World} {n:Int} {s:ByteArray} {e:Int}
theorem Jg4(C:Pc 223 #[.int .i64 n] w (.tuple #[.string s,.int .i64 e])):Pc 141 #[.int .i64 n] w (.string s):=by
 have C:=Pe C;go_enter func141,ntmps141;go_wp2_with fail;refine C.out.mono ?_;rintro r w1 ⟨rfl,b⟩;have B:=Pe b;have D:=Pe (Jfm s e w1);clear b C;go_wp2_with fail;refine D.out.mono ?_;exact Wa7
theorem Jdm(C:Pc 224 #[.int .i64 n] w (.tuple #[.string s,.int .i64 e])):Pc 143 #[.int .i64 n] w (.string s):=by
 have C:=Pe C;go_enter func143,ntmps143;go_wp2_with fail;refine C.out.mono ?_;rintro r w1 ⟨rfl,b⟩;have B:=Pe b;have D:=Pe (Jfm s e w1);clear b C;go_wp2_with fail;refine D.out.mono ?_;exact Wa7
theorem Jnh(C:Pc 222 #[.int .i64 n] w (.tuple #[.string s,.int .i64 e])):Pc 139 #[.int .i64 n] w (.string s):=by
 have C:=Pe C;go_enter func139,ntmps139;go_wp2_with fail;refine C.out.mono ?_;rintro r w1 ⟨rfl,b⟩;have B:=Pe b;have D:=Pe (Jfm s e w1);clear b C;go_wp2_with fail;refine D.out.mono ?_;exact Wa7
theorem Jhx(C:Pc 225 #[.int .i64 n] w (.tuple #[.string s,.int .i64 e])):Pc 144 #[.int .i64 n] w (.string s):=by
 have C:=Pe C;go_enter func144,ntmps144;go_wp2_with fail;refine C.out.mono ?_;rintro r w1 ⟨rfl,b⟩;have B:=Pe b;have D:=Pe (Jfm s e w1);clear b C;go_wp2_with fail;refine D.out.mono ?_;exact Wa7
end
theorem Qfo{w0:World}(hg:Jeo w0):Fw fmR w0 where
 num:=fun n h0 h1 w _=>S3.format_any n h0 h1 w
 prc:=fun n h0 h1 w _=>by
  have:=S3.fprice_yes n n.toNat (Int.toNat_of_nonneg h0).symm h1 w;exact this
 tim:=fun n h0 h1 w _=>Jvs n h0 h1 w
 dur:=fun n h0 h1 w _=>Jvt n h0 Ka w
 day:=fun n h0 h1 w b=>by
  obtain⟨x,y⟩:=J03 n.toNat 1200 (by rw[S2.bef_end];omega);have:=S2.dformat_yes (monD 1200 n.toNat) n.toNat y x w (hg.below b).1;rwa [Int.toNat_of_nonneg h0] at this
 mds:=fun n h0 h1 w b=>by
  have:=S15.kfmt_any n Ka Ka w (hg.below b).2.2.1;have e:Go.Proofs.YtpifdbphmnifdaaGreatDoor.fmtR n=(textR n.toNat,0):=U2;rw[e] at this;exact this
 mode:=fun m hm w b=>(S15.name_any m hm w (hg.below b).2.2.1).mono fun e w' h=>⟨h.1,Uy⟩
end
end Go.Proofs.YtpifdbphmnifdaaGreatDoor
