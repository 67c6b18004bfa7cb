/-
  Facts of the proof. Condition: each theorem's own.
-/
import Derived.Test.YtpifdbphmnifdaaGreatDoorYR23
set_option maxRecDepth 100000
set_option maxHeartbeats 8000000
open Go.Proofs.Tryz
namespace Go.Proofs.YtpifdbphmnifdaaGreatDoor
section
open Go.RowKit Go.ChangeShapes Go.WideShapes Go.Deep
abbrev ttV (a:Nat→Option Addr) (c:Nat→Nat) (T:Tt):Value:=.agg #[.slice (a 0) T.st.length (c 0),.slice (a 1) T.ro.length (c 1),.slice (a 2) T.ca.length (c 2),.slice (a 3) T.ex.length (c 3),.slice (a 4) T.tr.length (c 4),.slice (a 5) T.fr.length (c 5),.slice (a 6) T.th.length (c 6),.slice (a 7) T.gu.length (c 7),.slice (a 8) T.pa.length (c 8),.slice (a 9) T.pr.length (c 9),.int .i64 T.di,.int .i64 T.wi,.int .i64 T.cp]
abbrev Jbv (a:Nat→Option Addr) (c:Nat→Nat) (T:Tt):Obj:=.cells #[.slice (a 0) T.st.length (c 0),.slice (a 1) T.ro.length (c 1),.slice (a 2) T.ca.length (c 2),.slice (a 3) T.ex.length (c 3),.slice (a 4) T.tr.length (c 4),.slice (a 5) T.fr.length (c 5),.slice (a 6) T.th.length (c 6),.slice (a 7) T.gu.length (c 7),.slice (a 8) T.pa.length (c 8),.slice (a 9) T.pr.length (c 9),.int .i64 T.di,.int .i64 T.wi,.int .i64 T.cp] 36 (0,0)
def TtL (W:World) (a:Nat→Option Addr) (c:Nat→Nat) (T:Tt):Prop :=
 S13.LstS W (.slice (a 0) T.st.length (c 0)) T.st∧S15.LstR W (.slice (a 1) T.ro.length (c 1)) T.ro∧S14.LstC W (.slice (a 2) T.ca.length (c 2)) T.ca∧S14.LstX W (.slice (a 3) T.ex.length (c 3)) T.ex∧Jep W (.slice (a 4) T.tr.length (c 4)) T.tr∧LstF W (.slice (a 5) T.fr.length (c 5)) T.fr∧S19.LstH W (.slice (a 6) T.th.length (c 6)) T.th∧S19.LstU W (.slice (a 7) T.gu.length (c 7)) T.gu∧S20.LstF W (.slice (a 8) T.pa.length (c 8)) T.pa∧S21.LstPd W (.slice (a 9) T.pr.length (c 9)) T.pr
theorem TtL.below {W W':World} {a:Nat→Option Addr} {c:Nat→Nat} {T:Tt} (h:TtL W a c T) (b:Below W.heap.size W W'):TtL W' a c T:=by
 obtain⟨h0,h1,h2,h3,h4,h5,h6,h7,h8,h9⟩:=h;exact⟨h0.below b,h1.below b,h2.below b,h3.below b,h4.below b,h5.below b,h6.below b,h7.below b,h8.below b,h9.below b⟩
theorem TtL.st {W:World} {a:Nat→Option Addr} {c:Nat→Nat} {T:Tt} (h:TtL W a c T):S13.LstS W (.slice (a 0) T.st.length (c 0)) T.st:=h.1
theorem TtL.ro {W:World} {a:Nat→Option Addr} {c:Nat→Nat} {T:Tt} (h:TtL W a c T):S15.LstR W (.slice (a 1) T.ro.length (c 1)) T.ro:=h.2.1
theorem TtL.ca {W:World} {a:Nat→Option Addr} {c:Nat→Nat} {T:Tt} (h:TtL W a c T):S14.LstC W (.slice (a 2) T.ca.length (c 2)) T.ca:=h.2.2.1
theorem TtL.ex {W:World} {a:Nat→Option Addr} {c:Nat→Nat} {T:Tt} (h:TtL W a c T):S14.LstX W (.slice (a 3) T.ex.length (c 3)) T.ex:=h.2.2.2.1
theorem TtL.tr {W:World} {a:Nat→Option Addr} {c:Nat→Nat} {T:Tt} (h:TtL W a c T):Jep W (.slice (a 4) T.tr.length (c 4)) T.tr:=h.2.2.2.2.1
theorem TtL.fr {W:World} {a:Nat→Option Addr} {c:Nat→Nat} {T:Tt} (h:TtL W a c T):LstF W (.slice (a 5) T.fr.length (c 5)) T.fr:=h.2.2.2.2.2.1
theorem TtL.th {W:World} {a:Nat→Option Addr} {c:Nat→Nat} {T:Tt} (h:TtL W a c T):S19.LstH W (.slice (a 6) T.th.length (c 6)) T.th:=h.2.2.2.2.2.2.1
theorem TtL.gu {W:World} {a:Nat→Option Addr} {c:Nat→Nat} {T:Tt} (h:TtL W a c T):S19.LstU W (.slice (a 7) T.gu.length (c 7)) T.gu:=h.2.2.2.2.2.2.2.1
theorem TtL.pa {W:World} {a:Nat→Option Addr} {c:Nat→Nat} {T:Tt} (h:TtL W a c T):S20.LstF W (.slice (a 8) T.pa.length (c 8)) T.pa:=h.2.2.2.2.2.2.2.2.1
theorem TtL.pr {W:World} {a:Nat→Option Addr} {c:Nat→Nat} {T:Tt} (h:TtL W a c T):S21.LstPd W (.slice (a 9) T.pr.length (c 9)) T.pr:=h.2.2.2.2.2.2.2.2.2
theorem Jak {w:World} {k:Nat} {a:Nat→Option Addr} {c:Nat→Nat} {T:Tt} (h:w.heap[k]?=some (Jbv a c T)) :
  w.cell? ⟨k,0,none⟩=some (.slice (a 0) T.st.length (c 0))∧w.cell? ⟨k,1,none⟩=some (.slice (a 1) T.ro.length (c 1))∧w.cell? ⟨k,2,none⟩=some (.slice (a 2) T.ca.length (c 2))∧w.cell? ⟨k,3,none⟩=some (.slice (a 3) T.ex.length (c 3))∧w.cell? ⟨k,4,none⟩=some (.slice (a 4) T.tr.length (c 4))∧w.cell? ⟨k,5,none⟩=some (.slice (a 5) T.fr.length (c 5))∧w.cell? ⟨k,6,none⟩=some (.slice (a 6) T.th.length (c 6))∧w.cell? ⟨k,7,none⟩=some (.slice (a 7) T.gu.length (c 7))∧w.cell? ⟨k,8,none⟩=some (.slice (a 8) T.pa.length (c 8))∧w.cell? ⟨k,9,none⟩=some (.slice (a 9) T.pr.length (c 9))∧w.cell? ⟨k,10,none⟩=some (.int .i64 T.di)∧w.cell? ⟨k,11,none⟩=some (.int .i64 T.wi)∧w.cell? ⟨k,12,none⟩=some (.int .i64 T.cp) :=
 ⟨by rw [cell_of_row _ _ 0 _ _ _ h];rfl,by rw [cell_of_row _ _ 1 _ _ _ h];rfl,by rw [cell_of_row _ _ 2 _ _ _ h];rfl,by rw [cell_of_row _ _ 3 _ _ _ h];rfl,by rw [cell_of_row _ _ 4 _ _ _ h];rfl,by rw [cell_of_row _ _ 5 _ _ _ h];rfl,by rw [cell_of_row _ _ 6 _ _ _ h];rfl,by rw [cell_of_row _ _ 7 _ _ _ h];rfl,by rw [cell_of_row _ _ 8 _ _ _ h];rfl,by rw [cell_of_row _ _ 9 _ _ _ h];rfl,by rw [cell_of_row _ _ 10 _ _ _ h];rfl,by rw [cell_of_row _ _ 11 _ _ _ h];rfl,by rw [cell_of_row _ _ 12 _ _ _ h];rfl⟩
theorem Jer {w w7:World} {a:Nat→Option Addr} {c:Nat→Nat} {T:Tt} (h:w.alloc (Jbv a c T)=w7) :
  Below w.heap.size w w7∧w.heap.size<w7.heap.size∧w7.heap[w.heap.size]?=some (Jbv a c T):=by
 subst h;exact⟨(Below.refl _ _).alloc (Nat.le_refl _) _,by simp,heap_alloc_new w _⟩
def OkTt (T:Tt):Prop:=(∀(j:Nat) x,T.ex[j]?=some x→S14.Pl64 (S14.plX x))∧S19.Th64 T.th∧S19.Gus64 T.gu∧S20.L64 T.pa
def LnTt (T:Tt):Prop:=T.st.length≤9223372036854775807∧T.ro.length≤9223372036854775807∧T.ca.length≤9223372036854775807∧T.ex.length≤9223372036854775807∧T.tr.length≤9223372036854775807∧T.fr.length≤9223372036854775807∧T.th.length≤9223372036854775807∧T.gu.length≤9223372036854775807∧T.pa.length≤9223372036854775807∧T.pr.length≤9223372036854775807
instance:Inhabited S13.St:=⟨([],0,false,0)⟩
instance:Inhabited Rt:=⟨([],0,false)⟩
instance:Inhabited S14.Cl:=⟨([],fun _=>false,0,0)⟩
instance:Inhabited S14.Ex:=⟨(0,0,false)⟩
instance:Inhabited Fq:=⟨(0,0,0,0)⟩
instance:Inhabited S19.Th:=⟨(0,0)⟩
instance:Inhabited S19.Gt:=⟨(0,0,0)⟩
instance:Inhabited S20.Fp:=⟨(0,0,0,false)⟩
instance:Inhabited S21.Pd:=⟨([],0,0,0,0,0)⟩
theorem Jyo {H:Type} {enc:TypeId×Value→H} {W:World} {n:Nat} {cs:List Value} {x:DataW H×List MemPlace} (h:DataW.trod enc prog W 0 (fun _=>true) true n 118 cs=some x):∃a:Fq,(fun _:Fq=>True) a∧cs=fe a:=by
 obtain⟨y0,y1,y2,y3,n,_,hl,h0,h1,h2,h3⟩:=Go.Joins.trod_struct4 underlying118 h;rw [show prog.cellsOf 118=4 by kernel_rfl] at hl;match cs,hl with
 | [c0,c1,c2,c3],_ =>
  simp only [show prog.cellsOf 3=1 by kernel_rfl] at h0 h1 h2 h3;obtain⟨t,e0,-⟩:=DataW.trod_int underlying3 h0;obtain⟨a,e1,-⟩:=DataW.trod_int underlying3 h1;obtain⟨b,e2,-⟩:=DataW.trod_int underlying3 h2;obtain⟨v,e3,-⟩:=DataW.trod_int underlying3 h3;simp at e0 e1 e2 e3;subst e0 e1 e2 e3;exact⟨(t,a,b,v),trivial,rfl⟩
theorem Jti {H:Type} {enc:TypeId×Value→H} {W:World} {n:Nat} {cs:List Value} {x:DataW H×List MemPlace} (h:DataW.trod enc prog W 0 (fun _=>true) true n 34 cs=some x) :
  ∃v l d wi c,cs=[v,.int .i64 d,.int .i64 wi,.int .i64 c]∧S21.LstPd W v l∧l.length≤9223372036854775807:=by
 obtain⟨y0,y1,y2,y3,n,_,hl,h0,h1,h2,h3⟩:=Go.Joins.trod_struct4 underlying34 h;rw [show prog.cellsOf 34=4 by kernel_rfl] at hl;match cs,hl with
 | [c0,c1,c2,c3],_ =>
  simp only [show prog.cellsOf 3=1 by kernel_rfl,show prog.cellsOf 32=1 by kernel_rfl] at h0 h1 h2 h3;obtain⟨v,l,e0,a1,a2,-⟩:=Jbn (ok:=S21.OkPd1) (by decide) S21.pdE_len underlying32 (by kernel_rfl) (fun _ _ _ h=>S21.trod_prod h) h0;obtain⟨d,e1,-⟩:=DataW.trod_int underlying3 h1;obtain⟨wi,e2,-⟩:=DataW.trod_int underlying3 h2;obtain⟨c,e3,-⟩:=DataW.trod_int underlying3 h3;simp at e0 e1 e2 e3;subst e0 e1 e2 e3;exact⟨_,l,d,wi,c,rfl,a1,a2⟩
theorem J29 {α:Type} {a:Array α} (h:a.size=13):∃x0 x1 x2 x3 x4 x5 x6 x7 x8 x9 x10 x11 x12,a=#[x0,x1,x2,x3,x4,x5,x6,x7,x8,x9,x10,x11,x12]:=by
 obtain⟨l⟩:=a;match l,h with
 | [x0,x1,x2,x3,x4,x5,x6,x7,x8,x9,x10,x11,x12],_=>exact⟨x0,x1,x2,x3,x4,x5,x6,x7,x8,x9,x10,x11,x12,rfl⟩
theorem Jk8 {H:Type} {enc:TypeId×Value→H} {P:Program} {w:World} {base:Nat} {spare:Nat→Bool} {held:Bool} {t:TypeId} {f0 f1 f2 f3 f4 f5 f6 f7 f8 f9:Field} {fuel:Nat} {cs:List Value} {x:DataW H×List MemPlace} (ht:P.underlying t=some (.struct #[f0,f1,f2,f3,f4,f5,f6,f7,f8,f9])) (h:DataW.trod enc P w base spare held fuel t cs=some x) :
  ∃n,cs.length=P.cellsOf t∧(∃y,DataW.trod enc P w base spare held n f0.type ((cs.drop f0.offset).take (P.cellsOf f0.type))=some y)∧(∃y,DataW.trod enc P w base spare held n f1.type ((cs.drop f1.offset).take (P.cellsOf f1.type))=some y)∧(∃y,DataW.trod enc P w base spare held n f2.type ((cs.drop f2.offset).take (P.cellsOf f2.type))=some y)∧(∃y,DataW.trod enc P w base spare held n f3.type ((cs.drop f3.offset).take (P.cellsOf f3.type))=some y)∧(∃y,DataW.trod enc P w base spare held n f4.type ((cs.drop f4.offset).take (P.cellsOf f4.type))=some y)∧(∃y,DataW.trod enc P w base spare held n f5.type ((cs.drop f5.offset).take (P.cellsOf f5.type))=some y)∧(∃y,DataW.trod enc P w base spare held n f6.type ((cs.drop f6.offset).take (P.cellsOf f6.type))=some y)∧(∃y,DataW.trod enc P w base spare held n f7.type ((cs.drop f7.offset).take (P.cellsOf f7.type))=some y)∧(∃y,DataW.trod enc P w base spare held n f8.type ((cs.drop f8.offset).take (P.cellsOf f8.type))=some y)∧(∃y,DataW.trod enc P w base spare held n f9.type ((cs.drop f9.offset).take (P.cellsOf f9.type))=some y):=by
 obtain⟨xs,n,_,rfl,hl,hlen,hf⟩:=DataW.trod_struct ht h;match xs,hlen with
 | [y0,y1,y2,y3,y4,y5,y6,y7,y8,y9],_=>exact⟨n,hl,⟨y0,by simpa using hf 0 f0 rfl⟩,⟨y1,by simpa using hf 1 f1 rfl⟩,⟨y2,by simpa using hf 2 f2 rfl⟩,⟨y3,by simpa using hf 3 f3 rfl⟩,⟨y4,by simpa using hf 4 f4 rfl⟩,⟨y5,by simpa using hf 5 f5 rfl⟩,⟨y6,by simpa using hf 6 f6 rfl⟩,⟨y7,by simpa using hf 7 f7 rfl⟩,⟨y8,by simpa using hf 8 f8 rfl⟩,⟨y9,by simpa using hf 9 f9 rfl⟩⟩
theorem Jbq {α:Type} {enc:α→List Value} {W:World} {v:Value} {l:List α} (h:LstG enc W v l):∃A n,v=.slice A l.length n:=by
 obtain⟨A,n,e,-⟩:=h;exact⟨A,n,e⟩
theorem Ji3 {H:Type} {enc:TypeId×Value→H} {W:World} {base:Nat} {v:Value} {d:DataW H} {ps:List MemPlace} (hval:Value.okWide prog W .any base 36 v) (h:DataW.Trod enc prog W 0 (fun _=>true) true 36 v d ps) :
  ∃(a:Nat→Option Addr) (c:Nat→Nat) (T:Tt),v=ttV a c T∧(∀x∈ps,x.block<W.heap.size)∧TtL W a c T∧LnTt T∧OkTt T:=by
 have hlt:=(trodAll_mk1 h).lt;obtain⟨cs,rfl,hsz⟩:=okWide_struct underlying36 hval;obtain⟨c0,c1,c2,c3,c4,c5,c6,c7,c8,c9,c10,c11,c12,rfl⟩:=J29 (hsz.trans (by kernel_rfl));obtain⟨fuel,hf⟩:=h;obtain⟨n,-,⟨z0,h0⟩,⟨z1,h1⟩,⟨z2,h2⟩,⟨z3,h3⟩,⟨z4,h4⟩,⟨z5,h5⟩,⟨z6,h6⟩,⟨z7,h7⟩,⟨z8,h8⟩,⟨z9,h9⟩⟩:=Jk8 underlying36 hf;simp only [show prog.cellsOf 34=4 by kernel_rfl,show prog.cellsOf 23=1 by kernel_rfl,show prog.cellsOf 24=1 by kernel_rfl,show prog.cellsOf 25=1 by kernel_rfl,show prog.cellsOf 26=1 by kernel_rfl,show prog.cellsOf 27=1 by kernel_rfl,show prog.cellsOf 28=1 by kernel_rfl,show prog.cellsOf 29=1 by kernel_rfl,show prog.cellsOf 30=1 by kernel_rfl,show prog.cellsOf 31=1 by kernel_rfl] at h0 h1 h2 h3 h4 h5 h6 h7 h8 h9;obtain⟨v0,l0,e0,a0,n0,k0⟩:=Jbn (ok:=fun _:S13.St=>True) (by decide) S13.se_len underlying23 (by kernel_rfl) (fun _ _ _ h=>by obtain⟨a,-,e⟩:=S13.trod_stop h;exact⟨a,trivial,e⟩) h0;obtain⟨v1,l1,e1,a1,n1,k1⟩:=Jbn (ok:=fun _:Rt=>True) (by decide) S15.re_len underlying24 (by kernel_rfl) (fun _ _ _ h=>by obtain⟨a,-,e⟩:=S15.trod_route h;exact⟨a,trivial,e⟩) h1;obtain⟨v2,l2,e2,a2,n2,k2⟩:=Jbn (ok:=fun _:S14.Cl=>True) (by decide) S14.ce_len underlying25 (by kernel_rfl) (fun _ _ _ h=>by obtain⟨a,-,e⟩:=S14.trod_cal h;exact⟨a,trivial,e⟩) h2;obtain⟨v3,l3,e3,a3,n3,k3⟩:=Jbn (ok:=fun a:S14.Ex=>(-9223372036854775808≤a.1∧a.1≤9223372036854775807)∧-9223372036854775808≤a.2.1∧a.2.1≤9223372036854775807) (by decide) S14.xe_len underlying26 (by kernel_rfl) (fun _ _ _ h=>S14.trod_exc h) h3;obtain⟨v4,l4,e4,a4,n4,k4⟩:=Jbn (ok:=OkT W) (by decide) Jeo underlying27 (by kernel_rfl) (fun _ _ _ h=>Jyn h) h4;obtain⟨v5,l5,e5,a5,n5,k5⟩:=Jbn (ok:=fun _:Fq=>True) (by decide) fe_len underlying28 (by kernel_rfl) (fun _ _ _ h=>Jyo h) h5;obtain⟨v6,l6,e6,a6,n6,k6⟩:=Jbn (ok:=fun x:S19.Th=>S19.Ix64 x.1∧S19.Ix64 x.2) (by decide) S19.hh_len underlying29 (by kernel_rfl) (fun _ _ _ h=>S19.trod_thr h) h6;obtain⟨v7,l7,e7,a7,n7,k7⟩:=Jbn (ok:=fun x:S19.Gt=>S19.Gu64 x) (by decide) S19.gg_len underlying30 (by kernel_rfl) (fun _ _ _ h=>S19.trod_gua h) h7;obtain⟨v8,l8,e8,a8,n8,k8⟩:=Jbn (ok:=fun x:S20.Fp=>S20.Ky64 (S20.kyP x)) (by decide) S20.fe_len underlying31 (by kernel_rfl) (fun _ _ _ h=>S20.trod_foot h) h8;obtain⟨v9,l9,di,wi,cp,e9,a9,n9⟩:=Jti h9;simp [Value.cells] at e0 e1 e2 e3 e4 e5 e6 e7 e8 e9;obtain⟨e9,e10,e11,e12⟩:=e9;subst e0 e1 e2 e3 e4 e5 e6 e7 e8 e9 e10 e11 e12;obtain⟨A0,m0,rfl⟩:=Jbq a0;obtain⟨A1,m1,rfl⟩:=Jbq a1;obtain⟨A2,m2,rfl⟩:=Jbq a2;obtain⟨A3,m3,rfl⟩:=Jbq a3;obtain⟨A4,m4,rfl⟩:=Jbq a4;obtain⟨A5,m5,rfl⟩:=Jbq a5;obtain⟨A6,m6,rfl⟩:=Jbq a6;obtain⟨A7,m7,rfl⟩:=Jbq a7;obtain⟨A8,m8,rfl⟩:=Jbq a8;obtain⟨A9,m9,rfl⟩:=Jbq a9;refine⟨fun i=>[A0,A1,A2,A3,A4,A5,A6,A7,A8,A9].getD i none,fun i=>[m0,m1,m2,m3,m4,m5,m6,m7,m8,m9].getD i 0,⟨l0,l1,l2,l3,l4,l5,l6,l7,l8,l9,di,wi,cp⟩,rfl,hlt,?_,⟨n0,n1,n2,n3,n4,n5,n6,n7,n8,n9⟩,?_⟩
 ·exact⟨a0,a1,a2,a3,⟨a4,k4⟩,a5,a6,a7,a8,a9⟩
 ·exact⟨fun j x hx=>k3 x (List.mem_iff_getElem?.2 ⟨j,hx⟩),k6,k7,k8⟩
open Go.RowKit
theorem Jq8 {a b:ByteArray} (h:a.toList=b.toList):a=b:=by
 rcases Classical.em (a=b) with e | e
 ·exact e
 ·have:=Jdj e
  rw [h] at this;simp at this
theorem Jiy {a b:List UInt8} (h:str a=str b):a=b:=by
 have:=congrArg (fun b:ByteArray=>b.data.toList) h;simpa [str] using this
theorem Jyp (x1 x2 x3 x4 x5 x6 x7 y1 y2 y3 y4 y5 y6 y7:Bool) (W:World) (m:Nat) :
  (Op.equalIn (m+1+1) 59 (.agg #[.bool x1,.bool x2,.bool x3,.bool x4,.bool x5,.bool x6,.bool x7]) (.agg #[.bool y1,.bool y2,.bool y3,.bool y4,.bool y5,.bool y6,.bool y7])).run prog W=.ok (decide (x1=y1∧x2=y2∧x3=y3∧x4=y4∧x5=y5∧x6=y6∧x7=y7)) W:=by
 have ub:=underlying4;have ab:=isAgg4;have zb:=sizeOf4;have r7:List.range' 0 7=[0,1,2,3,4,5,6]:=rfl;have P:∀(p1 p2 p3 p4 p5 p6 p7:Bool) (W:World),(part 4 #[.bool p1,.bool p2,.bool p3,.bool p4,.bool p5,.bool p6,.bool p7] (0*1)).run prog W=.ok (.bool p1) W∧(part 4 #[.bool p1,.bool p2,.bool p3,.bool p4,.bool p5,.bool p6,.bool p7] (1*1)).run prog W=.ok (.bool p2) W∧(part 4 #[.bool p1,.bool p2,.bool p3,.bool p4,.bool p5,.bool p6,.bool p7] (2*1)).run prog W=.ok (.bool p3) W∧(part 4 #[.bool p1,.bool p2,.bool p3,.bool p4,.bool p5,.bool p6,.bool p7] (3*1)).run prog W=.ok (.bool p4) W∧(part 4 #[.bool p1,.bool p2,.bool p3,.bool p4,.bool p5,.bool p6,.bool p7] (4*1)).run prog W=.ok (.bool p5) W∧(part 4 #[.bool p1,.bool p2,.bool p3,.bool p4,.bool p5,.bool p6,.bool p7] (5*1)).run prog W=.ok (.bool p6) W∧(part 4 #[.bool p1,.bool p2,.bool p3,.bool p4,.bool p5,.bool p6,.bool p7] (6*1)).run prog W=.ok (.bool p7) W:=by
  intro p1 p2 p3 p4 p5 p6 p7 W;simp [part,ab]
 have E:∀(x y:Bool) (W:World),(Op.equalIn (m+1) 4 (.bool x) (.bool y)).run prog W=.ok (x==y) W:=fun x y W=>run_equalIn_bool W m _ x y ub
 rw [Op.equalIn];simp only [Sem.run_bind,run_underlying underlying59,Result.andThen_ok,zb];by_cases h1:x1=y1
 case neg=>simp [P,E,r7,h1]
 by_cases h2:x2=y2
 case neg=>simp [P,E,r7,h1,h2]
 by_cases h3:x3=y3
 case neg=>simp [P,E,r7,h1,h2,h3]
 by_cases h4:x4=y4
 case neg=>simp [P,E,r7,h1,h2,h3,h4]
 by_cases h5:x5=y5
 case neg=>simp [P,E,r7,h1,h2,h3,h4,h5]
 by_cases h6:x6=y6
 case neg=>simp [P,E,r7,h1,h2,h3,h4,h5,h6]
 by_cases h7:x7=y7
 case neg=>simp [P,E,r7,h1,h2,h3,h4,h5,h6,h7]
 simp [P,E,r7,h1,h2,h3,h4,h5,h6,h7]
theorem Jyq (x0 y0:ByteArray) (x1 y1:Int) (x2 y2:Bool) (x3 y3:Int) (h:¬(x0=y0∧x1=y1∧x2=y2∧x3=y3)) (W:World):(binOp BinOp.neq 112 (.agg #[.string x0,.int .i64 x1,.bool x2,.int .i64 x3]) (.agg #[.string y0,.int .i64 y1,.bool y2,.int .i64 y3])).run prog W=.ok (.bool true) W:=by
 go_simp
 exact fun h0 h1 h2 h3=>h ⟨Jq8 h0,h1,h2,h3⟩
theorem Jo1 (x0:ByteArray) (x1:Int) (x2:Bool) (x3:Int) (W:World):(binOp BinOp.neq 112 (.agg #[.string x0,.int .i64 x1,.bool x2,.int .i64 x3]) (.agg #[.string x0,.int .i64 x1,.bool x2,.int .i64 x3])).run prog W=.ok (.bool false) W:=by go_simp
theorem Jyr (x0 y0:ByteArray) (x1 y1:Int) (x2 y2:Bool) (h:¬(x0=y0∧x1=y1∧x2=y2)) (W:World):(binOp BinOp.neq 114 (.agg #[.string x0,.int .i64 x1,.bool x2]) (.agg #[.string y0,.int .i64 y1,.bool y2])).run prog W=.ok (.bool true) W:=by
 go_simp
 exact fun h0 h1 h2=>h ⟨Jq8 h0,h1,h2⟩
theorem Jo2 (x0:ByteArray) (x1:Int) (x2:Bool) (W:World):(binOp BinOp.neq 114 (.agg #[.string x0,.int .i64 x1,.bool x2]) (.agg #[.string x0,.int .i64 x1,.bool x2])).run prog W=.ok (.bool false) W:=by go_simp
theorem Jys (x0 y0:ByteArray) (x1 y1:Bool) (x2 y2:Bool) (x3 y3:Bool) (x4 y4:Bool) (x5 y5:Bool) (x6 y6:Bool) (x7 y7:Bool) (x8 y8:Int) (x9 y9:Int) (h:¬(x0=y0∧x1=y1∧x2=y2∧x3=y3∧x4=y4∧x5=y5∧x6=y6∧x7=y7∧x8=y8∧x9=y9)) (W:World):(binOp BinOp.neq 61 (.agg #[.string x0,.bool x1,.bool x2,.bool x3,.bool x4,.bool x5,.bool x6,.bool x7,.int .i64 x8,.int .i64 x9]) (.agg #[.string y0,.bool y1,.bool y2,.bool y3,.bool y4,.bool y5,.bool y6,.bool y7,.int .i64 y8,.int .i64 y9])).run prog W=.ok (.bool true) W:=by
 have E:=Jyp x1 x2 x3 x4 x5 x6 x7 y1 y2 y3 y4 y5 y6 y7 W 9997;by_cases hb:x1=y1∧x2=y2∧x3=y3∧x4=y4∧x5=y5∧x6=y6∧x7=y7
 ·obtain⟨rfl,rfl,rfl,rfl,rfl,rfl,rfl⟩:=hb
  rw [decide_eq_true ⟨rfl,rfl,rfl,rfl,rfl,rfl,rfl⟩] at E;go_simp
  exact fun h0 h8 h9=>h ⟨Jq8 h0,rfl,rfl,rfl,rfl,rfl,rfl,rfl,h8,h9⟩
 ·rw [decide_eq_false hb] at E
  clear h hb;go_simp
theorem Jo3 (x0:ByteArray) (x1:Bool) (x2:Bool) (x3:Bool) (x4:Bool) (x5:Bool) (x6:Bool) (x7:Bool) (x8:Int) (x9:Int) (W:World):(binOp BinOp.neq 61 (.agg #[.string x0,.bool x1,.bool x2,.bool x3,.bool x4,.bool x5,.bool x6,.bool x7,.int .i64 x8,.int .i64 x9]) (.agg #[.string x0,.bool x1,.bool x2,.bool x3,.bool x4,.bool x5,.bool x6,.bool x7,.int .i64 x8,.int .i64 x9])).run prog W=.ok (.bool false) W:=by
 have E:=Jyp x1 x2 x3 x4 x5 x6 x7 x1 x2 x3 x4 x5 x6 x7 W 9997;rw [decide_eq_true ⟨rfl,rfl,rfl,rfl,rfl,rfl,rfl⟩] at E;go_simp
theorem Jyt (x0 y0:Int) (x1 y1:Int) (x2 y2:Bool) (h:¬(x0=y0∧x1=y1∧x2=y2)) (W:World):(binOp BinOp.neq 116 (.agg #[.int .i64 x0,.int .i64 x1,.bool x2]) (.agg #[.int .i64 y0,.int .i64 y1,.bool y2])).run prog W=.ok (.bool true) W:=by
 go_simp
 exact fun h0 h1 h2=>h ⟨h0,h1,h2⟩
theorem Jo4 (x0:Int) (x1:Int) (x2:Bool) (W:World):(binOp BinOp.neq 116 (.agg #[.int .i64 x0,.int .i64 x1,.bool x2]) (.agg #[.int .i64 x0,.int .i64 x1,.bool x2])).run prog W=.ok (.bool false) W:=by go_simp
theorem Jyu (x0 y0:Int) (x1 y1:Int) (x2 y2:Int) (x3 y3:Bool) (x4 y4:Bool) (h:¬(x0=y0∧x1=y1∧x2=y2∧x3=y3∧x4=y4)) (W:World):(binOp BinOp.neq 58 (.agg #[.int .i64 x0,.int .i64 x1,.int .i64 x2,.bool x3,.bool x4]) (.agg #[.int .i64 y0,.int .i64 y1,.int .i64 y2,.bool y3,.bool y4])).run prog W=.ok (.bool true) W:=by
 go_simp
 exact fun h0 h1 h2 h3 h4=>h ⟨h0,h1,h2,h3,h4⟩
theorem Jo5 (x0:Int) (x1:Int) (x2:Int) (x3:Bool) (x4:Bool) (W:World):(binOp BinOp.neq 58 (.agg #[.int .i64 x0,.int .i64 x1,.int .i64 x2,.bool x3,.bool x4]) (.agg #[.int .i64 x0,.int .i64 x1,.int .i64 x2,.bool x3,.bool x4])).run prog W=.ok (.bool false) W:=by go_simp
theorem Jiz (x0:Int) (x1:Int) (x2:Int) (x3:Bool) (x4:Bool) (W:World):(binOp BinOp.eql 58 (.agg #[.int .i64 x0,.int .i64 x1,.int .i64 x2,.bool x3,.bool x4]) (.agg #[.int .i64 x0,.int .i64 x1,.int .i64 x2,.bool x3,.bool x4])).run prog W=.ok (.bool true) W:=by go_simp
theorem Jyv (x0 y0:Int) (x1 y1:Int) (x2 y2:Int) (x3 y3:Int) (h:¬(x0=y0∧x1=y1∧x2=y2∧x3=y3)) (W:World):(binOp BinOp.neq 118 (.agg #[.int .i64 x0,.int .i64 x1,.int .i64 x2,.int .i64 x3]) (.agg #[.int .i64 y0,.int .i64 y1,.int .i64 y2,.int .i64 y3])).run prog W=.ok (.bool true) W:=by
 go_simp
 exact fun h0 h1 h2 h3=>h ⟨h0,h1,h2,h3⟩
theorem Jo6 (x0:Int) (x1:Int) (x2:Int) (x3:Int) (W:World):(binOp BinOp.neq 118 (.agg #[.int .i64 x0,.int .i64 x1,.int .i64 x2,.int .i64 x3]) (.agg #[.int .i64 x0,.int .i64 x1,.int .i64 x2,.int .i64 x3])).run prog W=.ok (.bool false) W:=by go_simp
theorem Jyw (x0 y0:Int) (x1 y1:Int) (h:¬(x0=y0∧x1=y1)) (W:World):(binOp BinOp.neq 120 (.agg #[.int .i64 x0,.int .i64 x1]) (.agg #[.int .i64 y0,.int .i64 y1])).run prog W=.ok (.bool true) W:=by
 go_simp
 exact fun h0 h1=>h ⟨h0,h1⟩
theorem Jo7 (x0:Int) (x1:Int) (W:World):(binOp BinOp.neq 120 (.agg #[.int .i64 x0,.int .i64 x1]) (.agg #[.int .i64 x0,.int .i64 x1])).run prog W=.ok (.bool false) W:=by go_simp
theorem Jyx (x0 y0:Int) (x1 y1:Int) (x2 y2:Int) (h:¬(x0=y0∧x1=y1∧x2=y2)) (W:World):(binOp BinOp.neq 122 (.agg #[.int .i64 x0,.int .i64 x1,.int .i64 x2]) (.agg #[.int .i64 y0,.int .i64 y1,.int .i64 y2])).run prog W=.ok (.bool true) W:=by
 go_simp
 exact fun h0 h1 h2=>h ⟨h0,h1,h2⟩
theorem Jo8 (x0:Int) (x1:Int) (x2:Int) (W:World):(binOp BinOp.neq 122 (.agg #[.int .i64 x0,.int .i64 x1,.int .i64 x2]) (.agg #[.int .i64 x0,.int .i64 x1,.int .i64 x2])).run prog W=.ok (.bool false) W:=by go_simp
theorem Jyy (x0 y0:Int) (x1 y1:Int) (x2 y2:Int) (x3 y3:Bool) (h:¬(x0=y0∧x1=y1∧x2=y2∧x3=y3)) (W:World):(binOp BinOp.neq 63 (.agg #[.int .i64 x0,.int .i64 x1,.int .i64 x2,.bool x3]) (.agg #[.int .i64 y0,.int .i64 y1,.int .i64 y2,.bool y3])).run prog W=.ok (.bool true) W:=by
 go_simp
 exact fun h0 h1 h2 h3=>h ⟨h0,h1,h2,h3⟩
theorem Jo9 (x0:Int) (x1:Int) (x2:Int) (x3:Bool) (W:World):(binOp BinOp.neq 63 (.agg #[.int .i64 x0,.int .i64 x1,.int .i64 x2,.bool x3]) (.agg #[.int .i64 x0,.int .i64 x1,.int .i64 x2,.bool x3])).run prog W=.ok (.bool false) W:=by go_simp
theorem Jpa (x0:Int) (x1:Int) (x2:Int) (x3:Bool) (W:World):(binOp BinOp.eql 63 (.agg #[.int .i64 x0,.int .i64 x1,.int .i64 x2,.bool x3]) (.agg #[.int .i64 x0,.int .i64 x1,.int .i64 x2,.bool x3])).run prog W=.ok (.bool true) W:=by go_simp
theorem Jyz (x0 y0:ByteArray) (x1 y1:Int) (x2 y2:Int) (x3 y3:Int) (x4 y4:Int) (x5 y5:Int) (h:¬(x0=y0∧x1=y1∧x2=y2∧x3=y3∧x4=y4∧x5=y5)) (W:World):(binOp BinOp.neq 65 (.agg #[.string x0,.int .i64 x1,.int .i64 x2,.int .i64 x3,.int .i64 x4,.int .i64 x5]) (.agg #[.string y0,.int .i64 y1,.int .i64 y2,.int .i64 y3,.int .i64 y4,.int .i64 y5])).run prog W=.ok (.bool true) W:=by
 go_simp
 exact fun h0 h1 h2 h3 h4 h5=>h ⟨Jq8 h0,h1,h2,h3,h4,h5⟩
theorem Jpb (x0:ByteArray) (x1:Int) (x2:Int) (x3:Int) (x4:Int) (x5:Int) (W:World):(binOp BinOp.neq 65 (.agg #[.string x0,.int .i64 x1,.int .i64 x2,.int .i64 x3,.int .i64 x4,.int .i64 x5]) (.agg #[.string x0,.int .i64 x1,.int .i64 x2,.int .i64 x3,.int .i64 x4,.int .i64 x5])).run prog W=.ok (.bool false) W:=by go_simp
def manN (T:Tt):Prop:=T.st.length≤100000∧T.ro.length≤100000∧T.ca.length≤100000∧T.ex.length≤100000∧T.tr.length≤100000∧T.fr.length≤5000∧T.th.length≤100000∧T.gu.length≤100000∧T.pa.length≤100000∧T.pr.length≤100000
instance (T:Tt):Decidable (manN T):=by unfold manN;infer_instance
def manT (T:Tt):Bool:=decide (manN T)&&T.tr.all fun x=>decide ((clT x).length≤100000)
theorem Jck {T:Tt}:manT T=true↔manN T∧∀x∈T.tr,(clT x).length≤100000:=by
 unfold manT;rw [Bool.and_eq_true,decide_eq_true_iff,List.all_eq_true];exact⟨fun h=>⟨h.1,fun x hx=>of_decide_eq_true (h.2 x hx)⟩,fun h=>⟨h.1,fun x hx=>decide_eq_true (h.2 x hx)⟩⟩
theorem J3a {T:Tt} (h:fewN T):manN T:=by
 unfold fewN at h;unfold manN;omega
theorem J80 {T:Tt} (h:fewT T=true):manT T=true :=
 Jck.2 ⟨J3a (Jwn.1 h).1,fun x hx=>Nat.le_trans ((Jwn.1 h).2 x hx) (by decide)⟩
def CkM:Prop:=∀(a:Nat→Option Addr) (c:Nat→Nat) (T:Tt) (w:World),manT T=true→OkTt T→LnTt T→TtL w a c T→Calls prog 23 #[ttV a c T] w fun e w'=>e=.returned (.tuple #[.int .i64 ((ttC T).1),.int .i64 ((ttC T).2.1),.int .i64 ((ttC T).2.2)])∧Below w.heap.size w w'
theorem J3b (a:Nat→Option Addr) (c:Nat→Nat) (T:Tt) (hf:manT T=true) (_ok:OkTt T) (B:Nat) (w:World) (hB:w.heap[B]?=some (Jbv a c T)) (h:TtL w a c T):Calls prog 96 #[.pointer (some ⟨B,0,none⟩)] w fun e w'=>e=.returned (.tuple #[.int .i64 ((Ja0 T 0).1),.int .i64 ((Ja0 T 0).2)])∧Below w.heap.size w w':=by
 obtain⟨p0,p1,p2,p3,p4,p5,p6,p7,p8,p9,p10,p11,p12⟩:=Jak hB;obtain⟨⟨f0,f1,f2,f3,f4,f5,f6,f7,f8,f9⟩,hts0⟩:=Jck.1 hf;have hts:∀x∈T.tr,(clT x).length≤1000000:=fun x hx=>by have:=hts0 x hx;omega
 have K0:=Lib.hid (S13.kcheck_all (.slice (a 0) T.st.length (c 0)) T.st (by omega) w h.st);obtain⟨⟨x0,y0⟩,q0⟩:∃q,Ja0 T 0=q:=⟨_,rfl⟩;have e0:S13.chkT T.st=(x0,y0):=q0;rw [e0] at K0;rw [q0];clear f0 f1 f2 f3 f4 f5 f6 f7 f8 f9 hts hts0 hf _ok h hB e0 q0;go_enter func96,ntmps96
 go_wp2_with fail
 refine (K0.out).mono ?_;rintro e w8 ⟨rfl,bw8⟩;have B8:=Lib.hid bw8;clear bw8 K0 p0 p1 p2 p3 p4 p5 p6 p7 p8 p9 p10 p11 p12;go_wp2_with fail
 go_ret2;exact⟨rfl,B8.out⟩
theorem J3c (a:Nat→Option Addr) (c:Nat→Nat) (T:Tt) (hf:manT T=true) (_ok:OkTt T) (B:Nat) (w:World) (hB:w.heap[B]?=some (Jbv a c T)) (h:TtL w a c T):Calls prog 98 #[.pointer (some ⟨B,0,none⟩)] w fun e w'=>e=.returned (.tuple #[.int .i64 ((Ja0 T 1).1),.int .i64 ((Ja0 T 1).2)])∧Below w.heap.size w w':=by
 obtain⟨p0,p1,p2,p3,p4,p5,p6,p7,p8,p9,p10,p11,p12⟩:=Jak hB;obtain⟨⟨f0,f1,f2,f3,f4,f5,f6,f7,f8,f9⟩,hts0⟩:=Jck.1 hf;have hts:∀x∈T.tr,(clT x).length≤1000000:=fun x hx=>by have:=hts0 x hx;omega
 have K0:=Lib.hid (S15.kcheck_any (.slice (a 1) T.ro.length (c 1)) T.ro (by omega) w h.ro);obtain⟨⟨x0,y0⟩,q0⟩:∃q,Ja0 T 1=q:=⟨_,rfl⟩;have e0:chkR T.ro=(x0,y0):=q0;rw [e0] at K0;rw [q0];clear f0 f1 f2 f3 f4 f5 f6 f7 f8 f9 hts hts0 hf _ok h hB e0 q0;go_enter func98,ntmps98
 go_wp2_with fail
 refine (K0.out).mono ?_;rintro e w8 ⟨rfl,bw8⟩;have B8:=Lib.hid bw8;clear bw8 K0 p0 p1 p2 p3 p4 p5 p6 p7 p8 p9 p10 p11 p12;go_wp2_with fail
 go_ret2;exact⟨rfl,B8.out⟩
theorem J3d (a:Nat→Option Addr) (c:Nat→Nat) (T:Tt) (hf:manT T=true) (_ok:OkTt T) (B:Nat) (w:World) (hB:w.heap[B]?=some (Jbv a c T)) (h:TtL w a c T):Calls prog 100 #[.pointer (some ⟨B,0,none⟩)] w fun e w'=>e=.returned (.tuple #[.int .i64 ((Ja0 T 2).1),.int .i64 ((Ja0 T 2).2)])∧Below w.heap.size w w':=by
 obtain⟨p0,p1,p2,p3,p4,p5,p6,p7,p8,p9,p10,p11,p12⟩:=Jak hB;obtain⟨⟨f0,f1,f2,f3,f4,f5,f6,f7,f8,f9⟩,hts0⟩:=Jck.1 hf;have hts:∀x∈T.tr,(clT x).length≤1000000:=fun x hx=>by have:=hts0 x hx;omega
 have K0:=Lib.hid (S14.kcheck_all (.slice (a 2) T.ca.length (c 2)) T.ca (by omega) w h.ca);obtain⟨⟨x0,y0⟩,q0⟩:∃q,Ja0 T 2=q:=⟨_,rfl⟩;have e0:S14.chkC T.ca=(x0,y0):=q0;rw [e0] at K0;rw [q0];clear f0 f1 f2 f3 f4 f5 f6 f7 f8 f9 hts hts0 hf _ok h hB e0 q0;go_enter func100,ntmps100
 go_wp2_with fail
 refine (K0.out).mono ?_;rintro e w8 ⟨rfl,bw8⟩;have B8:=Lib.hid bw8;clear bw8 K0 p0 p1 p2 p3 p4 p5 p6 p7 p8 p9 p10 p11 p12;go_wp2_with fail
 go_ret2;exact⟨rfl,B8.out⟩
theorem J3e (a:Nat→Option Addr) (c:Nat→Nat) (T:Tt) (hf:manT T=true) (ok:OkTt T) (B Bc:Nat) (w:World) (hB:w.heap[B]?=some (Jbv a c T)) (hc:w.cell? ⟨Bc,0,none⟩=some (.int .i64 T.ca.length)) (h:TtL w a c T):Calls prog 102 #[.pointer (some ⟨B,0,none⟩),.pointer (some ⟨Bc,0,none⟩)] w fun e w'=>e=.returned (.tuple #[.int .i64 ((Ja0 T 3).1),.int .i64 ((Ja0 T 3).2)])∧Below w.heap.size w w':=by
 obtain⟨p0,p1,p2,p3,p4,p5,p6,p7,p8,p9,p10,p11,p12⟩:=Jak hB;obtain⟨⟨f0,f1,f2,f3,f4,f5,f6,f7,f8,f9⟩,hts0⟩:=Jck.1 hf;have hts:∀x∈T.tr,(clT x).length≤1000000:=fun x hx=>by have:=hts0 x hx;omega
 have K0:=Lib.hid (S14.kcx_any (.slice (a 3) T.ex.length (c 3)) T.ex T.ca.length (by omega) ok.1 w h.ex);obtain⟨⟨x0,y0⟩,q0⟩:∃q,Ja0 T 3=q:=⟨_,rfl⟩;have e0:S14.chkX T.ca.length T.ex=(x0,y0):=q0;rw [e0] at K0;rw [q0];clear f0 f1 f2 f3 f4 f5 f6 f7 f8 f9 hts hts0 hf ok h hB e0 q0;go_enter func102,ntmps102
 go_wp2_with fail
 refine (K0.out).mono ?_;rintro e w8 ⟨rfl,bw8⟩;have B8:=Lib.hid bw8;clear bw8 K0 p0 p1 p2 p3 p4 p5 p6 p7 p8 p9 p10 p11 p12;go_wp2_with fail
 go_ret2;exact⟨rfl,B8.out⟩
theorem J3f (a:Nat→Option Addr) (c:Nat→Nat) (T:Tt) (hf:manT T=true) (_ok:OkTt T) (B Bs Br Bc:Nat) (w:World) (hB:w.heap[B]?=some (Jbv a c T)) (hs:w.cell? ⟨Bs,0,none⟩=some (.int .i64 T.st.length)) (hr:w.cell? ⟨Br,0,none⟩=some (.int .i64 T.ro.length)) (hc:w.cell? ⟨Bc,0,none⟩=some (.int .i64 T.ca.length)) (h:TtL w a c T):Calls prog 104 #[.pointer (some ⟨B,0,none⟩),.pointer (some ⟨Bs,0,none⟩),.pointer (some ⟨Br,0,none⟩),.pointer (some ⟨Bc,0,none⟩)] w fun e w'=>e=.returned (.tuple #[.int .i64 ((Ja0 T 4).1),.int .i64 ((Ja0 T 4).2)])∧Below w.heap.size w w':=by
 obtain⟨p0,p1,p2,p3,p4,p5,p6,p7,p8,p9,p10,p11,p12⟩:=Jak hB;obtain⟨⟨f0,f1,f2,f3,f4,f5,f6,f7,f8,f9⟩,hts0⟩:=Jck.1 hf;have hts:∀x∈T.tr,(clT x).length≤1000000:=fun x hx=>by have:=hts0 x hx;omega
 have K0:=Lib.hid (S17.ktck_any (.slice (a 4) T.tr.length (c 4)) T.tr (by omega) T.st.length T.ro.length T.ca.length w h.tr);obtain⟨⟨x0,y0⟩,q0⟩:∃q,Ja0 T 4=q:=⟨_,rfl⟩;have e0:S17.chkT T.st.length T.ro.length T.ca.length T.tr=(x0,y0):=q0;rw [e0] at K0;rw [q0];clear f0 f1 f2 f3 f4 f5 f6 f7 f8 f9 hts hts0 hf _ok h hB e0 q0;go_enter func104,ntmps104
 go_wp2_with fail
 refine (K0.out).mono ?_;rintro e w8 ⟨rfl,bw8⟩;have B8:=Lib.hid bw8;clear bw8 K0 p0 p1 p2 p3 p4 p5 p6 p7 p8 p9 p10 p11 p12;go_wp2_with fail
 go_ret2;exact⟨rfl,B8.out⟩
theorem J3g (a:Nat→Option Addr) (c:Nat→Nat) (T:Tt) (hf:manT T=true) (_ok:OkTt T) (B:Nat) (w:World) (hB:w.heap[B]?=some (Jbv a c T)) (h:TtL w a c T):Calls prog 106 #[.pointer (some ⟨B,0,none⟩)] w fun e w'=>e=.returned (.tuple #[.int .i64 ((Ja0 T 5).1),.int .i64 ((Ja0 T 5).2)])∧Below w.heap.size w w':=by
 obtain⟨p0,p1,p2,p3,p4,p5,p6,p7,p8,p9,p10,p11,p12⟩:=Jak hB;obtain⟨⟨f0,f1,f2,f3,f4,f5,f6,f7,f8,f9⟩,hts0⟩:=Jck.1 hf;have hts:∀x∈T.tr,(clT x).length≤1000000:=fun x hx=>by have:=hts0 x hx;omega
 have K0:=Lib.hid (S18.kchk_any (.slice (a 5) T.fr.length (c 5)) T.fr (by omega) (.slice (a 4) T.tr.length (c 4)) T.tr hts w h.fr h.tr);obtain⟨⟨x0,y0⟩,q0⟩:∃q,Ja0 T 5=q:=⟨_,rfl⟩;have e0:chkF (T.tr.map clT) T.fr=(x0,y0):=q0;rw [e0] at K0;rw [q0];clear f0 f1 f2 f3 f4 f5 f6 f7 f8 f9 hts hts0 hf _ok h hB e0 q0;go_enter func106,ntmps106
 go_wp2_with fail
 refine (K0.out).mono ?_;rintro e w8 ⟨rfl,bw8⟩;have B8:=Lib.hid bw8;clear bw8 K0 p0 p1 p2 p3 p4 p5 p6 p7 p8 p9 p10 p11 p12;go_wp2_with fail
 go_ret2;exact⟨rfl,B8.out⟩
theorem J3h (a:Nat→Option Addr) (c:Nat→Nat) (T:Tt) (hf:manT T=true) (ok:OkTt T) (B:Nat) (w:World) (hB:w.heap[B]?=some (Jbv a c T)) (h:TtL w a c T):Calls prog 108 #[.pointer (some ⟨B,0,none⟩)] w fun e w'=>e=.returned (.tuple #[.int .i64 ((Ja0 T 6).1),.int .i64 ((Ja0 T 6).2)])∧Below w.heap.size w w':=by
 obtain⟨p0,p1,p2,p3,p4,p5,p6,p7,p8,p9,p10,p11,p12⟩:=Jak hB;obtain⟨⟨f0,f1,f2,f3,f4,f5,f6,f7,f8,f9⟩,hts0⟩:=Jck.1 hf;have hts:∀x∈T.tr,(clT x).length≤1000000:=fun x hx=>by have:=hts0 x hx;omega
 have K0:=Lib.hid (S19.kchkh_any (.slice (a 6) T.th.length (c 6)) T.th (by omega) ok.2.1 (.slice (a 4) T.tr.length (c 4)) T.tr hts (.slice (a 5) T.fr.length (c 5)) T.fr (by omega) w h.th h.tr h.fr);obtain⟨⟨x0,y0⟩,q0⟩:∃q,Ja0 T 6=q:=⟨_,rfl⟩;have e0:S19.chkH (T.tr.map S19.tcT) T.fr T.th=(x0,y0):=q0;rw [e0] at K0;rw [q0];clear f0 f1 f2 f3 f4 f5 f6 f7 f8 f9 hts hts0 hf ok h hB e0 q0;go_enter func108,ntmps108
 go_wp2_with fail
 refine (K0.out).mono ?_;rintro e w8 ⟨rfl,bw8⟩;have B8:=Lib.hid bw8;clear bw8 K0 p0 p1 p2 p3 p4 p5 p6 p7 p8 p9 p10 p11 p12;go_wp2_with fail
 go_ret2;exact⟨rfl,B8.out⟩
theorem J3i (a:Nat→Option Addr) (c:Nat→Nat) (T:Tt) (hf:manT T=true) (ok:OkTt T) (B Bs:Nat) (w:World) (hB:w.heap[B]?=some (Jbv a c T)) (hs:w.cell? ⟨Bs,0,none⟩=some (.int .i64 T.st.length)) (h:TtL w a c T):Calls prog 110 #[.pointer (some ⟨B,0,none⟩),.pointer (some ⟨Bs,0,none⟩)] w fun e w'=>e=.returned (.tuple #[.int .i64 ((Ja0 T 7).1),.int .i64 ((Ja0 T 7).2)])∧Below w.heap.size w w':=by
 obtain⟨p0,p1,p2,p3,p4,p5,p6,p7,p8,p9,p10,p11,p12⟩:=Jak hB;obtain⟨⟨f0,f1,f2,f3,f4,f5,f6,f7,f8,f9⟩,hts0⟩:=Jck.1 hf;have hts:∀x∈T.tr,(clT x).length≤1000000:=fun x hx=>by have:=hts0 x hx;omega
 have K0:=Lib.hid (S19.kchku_any (.slice (a 7) T.gu.length (c 7)) T.gu (by omega) ok.2.2.1 (.slice (a 4) T.tr.length (c 4)) T.tr hts (.slice (a 5) T.fr.length (c 5)) T.fr (by omega) T.st.length w h.gu h.tr h.fr);obtain⟨⟨x0,y0⟩,q0⟩:∃q,Ja0 T 7=q:=⟨_,rfl⟩;have e0:S19.chkU (T.tr.map S19.tcT) T.fr T.st.length T.gu=(x0,y0):=q0;rw [e0] at K0;rw [q0];clear f0 f1 f2 f3 f4 f5 f6 f7 f8 f9 hts hts0 hf ok h hB e0 q0;go_enter func110,ntmps110
 go_wp2_with fail
 refine (K0.out).mono ?_;rintro e w8 ⟨rfl,bw8⟩;have B8:=Lib.hid bw8;clear bw8 K0 p0 p1 p2 p3 p4 p5 p6 p7 p8 p9 p10 p11 p12;go_wp2_with fail
 go_ret2;exact⟨rfl,B8.out⟩
theorem J3j (a:Nat→Option Addr) (c:Nat→Nat) (T:Tt) (hf:manT T=true) (ok:OkTt T) (B Bs:Nat) (w:World) (hB:w.heap[B]?=some (Jbv a c T)) (hs:w.cell? ⟨Bs,0,none⟩=some (.int .i64 T.st.length)) (h:TtL w a c T):Calls prog 112 #[.pointer (some ⟨B,0,none⟩),.pointer (some ⟨Bs,0,none⟩)] w fun e w'=>e=.returned (.tuple #[.int .i64 ((Ja0 T 8).1),.int .i64 ((Ja0 T 8).2)])∧Below w.heap.size w w':=by
 obtain⟨p0,p1,p2,p3,p4,p5,p6,p7,p8,p9,p10,p11,p12⟩:=Jak hB;obtain⟨⟨f0,f1,f2,f3,f4,f5,f6,f7,f8,f9⟩,hts0⟩:=Jck.1 hf;have hts:∀x∈T.tr,(clT x).length≤1000000:=fun x hx=>by have:=hts0 x hx;omega
 have K0:=Lib.hid (S20.kchk_any (.slice (a 8) T.pa.length (c 8)) T.pa (by omega) T.st.length ok.2.2.2 w h.pa);obtain⟨⟨x0,y0⟩,q0⟩:∃q,Ja0 T 8=q:=⟨_,rfl⟩;have e0:S20.chkP T.st.length T.pa=(x0,y0):=q0;rw [e0] at K0;rw [q0];clear f0 f1 f2 f3 f4 f5 f6 f7 f8 f9 hts hts0 hf ok h hB e0 q0;go_enter func112,ntmps112
 go_wp2_with fail
 refine (K0.out).mono ?_;rintro e w8 ⟨rfl,bw8⟩;have B8:=Lib.hid bw8;clear bw8 K0 p0 p1 p2 p3 p4 p5 p6 p7 p8 p9 p10 p11 p12;go_wp2_with fail
 go_ret2;exact⟨rfl,B8.out⟩
theorem J3k (a:Nat→Option Addr) (c:Nat→Nat) (T:Tt) (hf:manT T=true) (_ok:OkTt T) (B:Nat) (w:World) (hB:w.heap[B]?=some (Jbv a c T)) (h:TtL w a c T):Calls prog 114 #[.pointer (some ⟨B,0,none⟩)] w fun e w'=>e=.returned (.tuple #[.int .i64 ((Ja0 T 9).1),.int .i64 ((Ja0 T 9).2)])∧Below w.heap.size w w':=by
 obtain⟨p0,p1,p2,p3,p4,p5,p6,p7,p8,p9,p10,p11,p12⟩:=Jak hB;obtain⟨⟨f0,f1,f2,f3,f4,f5,f6,f7,f8,f9⟩,hts0⟩:=Jck.1 hf;have hts:∀x∈T.tr,(clT x).length≤1000000:=fun x hx=>by have:=hts0 x hx;omega
 have K0:=Lib.hid (S21.kcheck_any (.slice (a 9) T.pr.length (c 9)) T.pr T.di T.wi T.cp (by omega) w h.pr);obtain⟨⟨x0,y0⟩,q0⟩:∃q,Ja0 T 9=q:=⟨_,rfl⟩;have e0:S21.chkPd T.di T.wi T.cp T.pr=(x0,y0):=q0;rw [e0] at K0;rw [q0];clear f0 f1 f2 f3 f4 f5 f6 f7 f8 f9 hts hts0 hf _ok h hB e0 q0;go_enter func114,ntmps114
 go_wp2_with fail
 refine (K0.out).mono ?_;rintro e w8 ⟨rfl,bw8⟩;have B8:=Lib.hid bw8;clear bw8 K0 p0 p1 p2 p3 p4 p5 p6 p7 p8 p9 p10 p11 p12;go_wp2_with fail
 go_ret2;exact⟨rfl,B8.out⟩
def Cks (T:Tt) (W:World) (v:Value):Prop:=∃G o,v=.slice (some ⟨G,o,none⟩) 10 10∧G<W.heap.size∧∀j,j<10→∃K caps,W.cell? ⟨G,o+j,none⟩=some (.func (.func K) #[] caps)∧(∀args W,(callFunc K args).run prog W=.ok (.enter K args) W) ∧
 ∀W',Below W.heap.size W W'→Calls prog K caps W' fun e w'=>e=.returned (.tuple #[.int .i64 (Ja0 T j).1,.int .i64 (Ja0 T j).2])∧Below W'.heap.size W' w'
theorem ent0:∀args W,(callFunc 96 args).run prog W=.ok (.enter 96 args) W:=Jby func96 (by kernel_rfl) (by kernel_rfl)
theorem ent1:∀args W,(callFunc 98 args).run prog W=.ok (.enter 98 args) W:=Jby func98 (by kernel_rfl) (by kernel_rfl)
theorem ent2:∀args W,(callFunc 100 args).run prog W=.ok (.enter 100 args) W:=Jby func100 (by kernel_rfl) (by kernel_rfl)
theorem ent3:∀args W,(callFunc 102 args).run prog W=.ok (.enter 102 args) W:=Jby func102 (by kernel_rfl) (by kernel_rfl)
theorem ent4:∀args W,(callFunc 104 args).run prog W=.ok (.enter 104 args) W:=Jby func104 (by kernel_rfl) (by kernel_rfl)
theorem ent5:∀args W,(callFunc 106 args).run prog W=.ok (.enter 106 args) W:=Jby func106 (by kernel_rfl) (by kernel_rfl)
theorem ent6:∀args W,(callFunc 108 args).run prog W=.ok (.enter 108 args) W:=Jby func108 (by kernel_rfl) (by kernel_rfl)
theorem ent7:∀args W,(callFunc 110 args).run prog W=.ok (.enter 110 args) W:=Jby func110 (by kernel_rfl) (by kernel_rfl)
theorem ent8:∀args W,(callFunc 112 args).run prog W=.ok (.enter 112 args) W:=Jby func112 (by kernel_rfl) (by kernel_rfl)
theorem ent9:∀args W,(callFunc 114 args).run prog W=.ok (.enter 114 args) W:=Jby func114 (by kernel_rfl) (by kernel_rfl)
theorem Qcn (a:Nat→Option Addr) (c:Nat→Nat) (T:Tt) (hf:manT T=true) (ok:OkTt T) (B Bs Br Bc G:Nat) (w:World) (hB:w.heap[B]?=some (Jbv a c T)) (hs:w.cell? ⟨Bs,0,none⟩=some (.int .i64 T.st.length)) (hr:w.cell? ⟨Br,0,none⟩=some (.int .i64 T.ro.length)) (hc:w.cell? ⟨Bc,0,none⟩=some (.int .i64 T.ca.length)) (h:TtL w a c T) (t:TypeId) (hG:w.heap[G]?=some (.cells #[.func (.func 96) #[] #[.pointer (some ⟨B,0,none⟩)],.func (.func 98) #[] #[.pointer (some ⟨B,0,none⟩)],.func (.func 100) #[] #[.pointer (some ⟨B,0,none⟩)],.func (.func 102) #[] #[.pointer (some ⟨B,0,none⟩),.pointer (some ⟨Bc,0,none⟩)],.func (.func 104) #[] #[.pointer (some ⟨B,0,none⟩),.pointer (some ⟨Bs,0,none⟩),.pointer (some ⟨Br,0,none⟩),.pointer (some ⟨Bc,0,none⟩)],.func (.func 106) #[] #[.pointer (some ⟨B,0,none⟩)],.func (.func 108) #[] #[.pointer (some ⟨B,0,none⟩)],.func (.func 110) #[] #[.pointer (some ⟨B,0,none⟩),.pointer (some ⟨Bs,0,none⟩)],.func (.func 112) #[] #[.pointer (some ⟨B,0,none⟩),.pointer (some ⟨Bs,0,none⟩)],.func (.func 114) #[] #[.pointer (some ⟨B,0,none⟩)]] t (0,0))):Cks T w (.slice (some ⟨G,0,none⟩) 10 10):=by
 have gB:B<w.heap.size:=(Array.getElem?_eq_some_iff.1 hB).1;have gs:=World.block_lt_of_cell? _ _ hs;have gr:=World.block_lt_of_cell? _ _ hr;have gc:=World.block_lt_of_cell? _ _ hc;refine⟨G,0,rfl,(Array.getElem?_eq_some_iff.1 hG).1,fun j hj=>?_⟩;match j,hj with
 | 0,_=>exact⟨_,_,by rw [cell_of_row _ _ _ _ _ _ hG];rfl,ent0,fun W' hW=>J3b a c T hf ok B W' ((hW.block _ gB).trans hB) (h.below hW)⟩
 | 1,_=>exact⟨_,_,by rw [cell_of_row _ _ _ _ _ _ hG];rfl,ent1,fun W' hW=>J3c a c T hf ok B W' ((hW.block _ gB).trans hB) (h.below hW)⟩
 | 2,_=>exact⟨_,_,by rw [cell_of_row _ _ _ _ _ _ hG];rfl,ent2,fun W' hW=>J3d a c T hf ok B W' ((hW.block _ gB).trans hB) (h.below hW)⟩
 | 3,_=>exact⟨_,_,by rw [cell_of_row _ _ _ _ _ _ hG];rfl,ent3,fun W' hW=>J3e a c T hf ok B Bc W' ((hW.block _ gB).trans hB) ((hW.cell (p:=⟨Bc,0,none⟩) gc).trans hc) (h.below hW)⟩
 | 4,_=>exact⟨_,_,by rw [cell_of_row _ _ _ _ _ _ hG];rfl,ent4,fun W' hW=>J3f a c T hf ok B Bs Br Bc W' ((hW.block _ gB).trans hB) ((hW.cell (p:=⟨Bs,0,none⟩) gs).trans hs) ((hW.cell (p:=⟨Br,0,none⟩) gr).trans hr) ((hW.cell (p:=⟨Bc,0,none⟩) gc).trans hc) (h.below hW)⟩
 | 5,_=>exact⟨_,_,by rw [cell_of_row _ _ _ _ _ _ hG];rfl,ent5,fun W' hW=>J3g a c T hf ok B W' ((hW.block _ gB).trans hB) (h.below hW)⟩
 | 6,_=>exact⟨_,_,by rw [cell_of_row _ _ _ _ _ _ hG];rfl,ent6,fun W' hW=>J3h a c T hf ok B W' ((hW.block _ gB).trans hB) (h.below hW)⟩
 | 7,_=>exact⟨_,_,by rw [cell_of_row _ _ _ _ _ _ hG];rfl,ent7,fun W' hW=>J3i a c T hf ok B Bs W' ((hW.block _ gB).trans hB) ((hW.cell (p:=⟨Bs,0,none⟩) gs).trans hs) (h.below hW)⟩
 | 8,_=>exact⟨_,_,by rw [cell_of_row _ _ _ _ _ _ hG];rfl,ent8,fun W' hW=>J3j a c T hf ok B Bs W' ((hW.block _ gB).trans hB) ((hW.cell (p:=⟨Bs,0,none⟩) gs).trans hs) (h.below hW)⟩
 | 9,_=>exact⟨_,_,by rw [cell_of_row _ _ _ _ _ _ hG];rfl,ent9,fun W' hW=>J3k a c T hf ok B W' ((hW.block _ gB).trans hB) (h.below hW)⟩
 | n+10,h=>omega
end
end Go.Proofs.YtpifdbphmnifdaaGreatDoor
