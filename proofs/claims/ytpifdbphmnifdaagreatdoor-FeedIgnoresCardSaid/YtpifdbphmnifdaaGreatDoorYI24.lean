/-
  Facts of the proof. Condition: each theorem's own.
-/
import Derived.Test.YtpifdbphmnifdaaGreatDoorYI23
set_option maxRecDepth 100000
set_option maxHeartbeats 8000000
open Go.Proofs.Tryz
namespace Go.Proofs.YtpifdbphmnifdaaGreatDoor
section
open Go.RowKit
theorem Jbk {P:Program} {fn:Func} {p u v:Tmp} {ty:TypeId} (h:fn.results=#[.cell p ty,.tmp u,.tmp v]) (tmps:Array Value) (w:World) (g:Nat) (t:TypeId) (cs:Array Value) (fr:Nat×Nat) (d:TypeDesc)
  (hp:tmps.getD p undef=.pointer (some ⟨g,0,none⟩)) (hg:w.heap[g]?=some (.cells cs t fr))
  (hu:P.underlying ty=some d) (hd:(match d with | .struct _ | .array _ _=>true | _=>false)=true) (hi:(P.info? ty).map (·.size)=some cs.size) :
  (results fn tmps).run P w=.ok (.tuple #[.agg cs,tmps.getD u undef,tmps.getD v undef]) w:=by
 have hp':tmps[p]?.getD undef=.pointer (some ⟨g,0,none⟩):=by simpa using hp
 simp [results,h,hp',asAddr,run_loadVar_row w g t ty cs fr d hg hu hd hi]
theorem Jau {w:World} {b i:Nat} {cs:Array Value} {t:TypeId} {fr:Nat×Nat} {v:Value} (h:w.heap[b]?=some (.cells cs t fr)) (hv:cs[i]?=some v):w.setCell ⟨b,i,none⟩ v=w:=by
 have hi:=(Array.getElem?_eq_some_iff.1 hv);obtain⟨hi,hv'⟩:=hi;have hc:cs.setIfInBounds i v=cs:=by
  apply Array.ext_getElem?
  intro j;rw [Array.getElem?_setIfInBounds];split
  ·next e=>subst e;exact hv.symm
  ·rfl
 have e:∀f:Obj→Obj,f (.cells cs t fr)=.cells cs t fr→w.heap.modify b f=w.heap:=fun f hf=>by
  apply Array.ext_getElem?
  intro j;rw [Array.getElem?_modify];split
  ·next e =>
   subst e;rw [h,Option.map_some,hf]
  ·rfl
 unfold World.setCell;rw [e _ (by show Obj.cells (cs.setIfInBounds i v) t fr=_;rw [hc])]
abbrev zT:Array Value:=#[.slice none 0 0,.slice none 0 0,.slice none 0 0,.slice none 0 0,.slice none 0 0,.slice none 0 0,.slice none 0 0,.slice none 0 0,.slice none 0 0,.slice none 0 0,.int .i64 0,.int .i64 0,.int .i64 0]
theorem Jgp {w:World} {b:Nat} {t:TypeId} (h:w.heap[b]?=some (.cells zT t (0,0))):w.cell? ⟨b,0,none⟩=some (.slice none 0 0)∧w.frozen? ⟨b,0,none⟩=false∧w.setCell ⟨b,0,none⟩ (.slice none 0 0)=w∧w.cell? ⟨b,1,none⟩=some (.slice none 0 0)∧w.frozen? ⟨b,1,none⟩=false∧w.setCell ⟨b,1,none⟩ (.slice none 0 0)=w∧w.cell? ⟨b,2,none⟩=some (.slice none 0 0)∧w.frozen? ⟨b,2,none⟩=false∧w.setCell ⟨b,2,none⟩ (.slice none 0 0)=w∧w.cell? ⟨b,3,none⟩=some (.slice none 0 0)∧w.frozen? ⟨b,3,none⟩=false∧w.setCell ⟨b,3,none⟩ (.slice none 0 0)=w∧w.cell? ⟨b,4,none⟩=some (.slice none 0 0)∧w.frozen? ⟨b,4,none⟩=false∧w.setCell ⟨b,4,none⟩ (.slice none 0 0)=w∧w.cell? ⟨b,5,none⟩=some (.slice none 0 0)∧w.frozen? ⟨b,5,none⟩=false∧w.setCell ⟨b,5,none⟩ (.slice none 0 0)=w∧w.cell? ⟨b,6,none⟩=some (.slice none 0 0)∧w.frozen? ⟨b,6,none⟩=false∧w.setCell ⟨b,6,none⟩ (.slice none 0 0)=w∧w.cell? ⟨b,7,none⟩=some (.slice none 0 0)∧w.frozen? ⟨b,7,none⟩=false∧w.setCell ⟨b,7,none⟩ (.slice none 0 0)=w∧w.cell? ⟨b,8,none⟩=some (.slice none 0 0)∧w.frozen? ⟨b,8,none⟩=false∧w.setCell ⟨b,8,none⟩ (.slice none 0 0)=w∧w.cell? ⟨b,9,none⟩=some (.slice none 0 0)∧w.frozen? ⟨b,9,none⟩=false∧w.setCell ⟨b,9,none⟩ (.slice none 0 0)=w∧w.cell? ⟨b,10,none⟩=some (.int .i64 0)∧w.frozen? ⟨b,10,none⟩=false∧w.setCell ⟨b,10,none⟩ (.int .i64 0)=w∧w.cell? ⟨b,11,none⟩=some (.int .i64 0)∧w.frozen? ⟨b,11,none⟩=false∧w.setCell ⟨b,11,none⟩ (.int .i64 0)=w∧w.cell? ⟨b,12,none⟩=some (.int .i64 0)∧w.frozen? ⟨b,12,none⟩=false∧w.setCell ⟨b,12,none⟩ (.int .i64 0)=w:=⟨by rw [cell_of_row _ _ _ _ _ _ h];rfl,frozen_of_row _ _ _ _ _ h,Jau h rfl,by rw [cell_of_row _ _ _ _ _ _ h];rfl,frozen_of_row _ _ _ _ _ h,Jau h rfl,by rw [cell_of_row _ _ _ _ _ _ h];rfl,frozen_of_row _ _ _ _ _ h,Jau h rfl,by rw [cell_of_row _ _ _ _ _ _ h];rfl,frozen_of_row _ _ _ _ _ h,Jau h rfl,by rw [cell_of_row _ _ _ _ _ _ h];rfl,frozen_of_row _ _ _ _ _ h,Jau h rfl,by rw [cell_of_row _ _ _ _ _ _ h];rfl,frozen_of_row _ _ _ _ _ h,Jau h rfl,by rw [cell_of_row _ _ _ _ _ _ h];rfl,frozen_of_row _ _ _ _ _ h,Jau h rfl,by rw [cell_of_row _ _ _ _ _ _ h];rfl,frozen_of_row _ _ _ _ _ h,Jau h rfl,by rw [cell_of_row _ _ _ _ _ _ h];rfl,frozen_of_row _ _ _ _ _ h,Jau h rfl,by rw [cell_of_row _ _ _ _ _ _ h];rfl,frozen_of_row _ _ _ _ _ h,Jau h rfl,by rw [cell_of_row _ _ _ _ _ _ h];rfl,frozen_of_row _ _ _ _ _ h,Jau h rfl,by rw [cell_of_row _ _ _ _ _ _ h];rfl,frozen_of_row _ _ _ _ _ h,Jau h rfl,by rw [cell_of_row _ _ _ _ _ _ h];rfl,frozen_of_row _ _ _ _ _ h,Jau h rfl⟩
abbrev csT (a:Nat→Option Addr) (c:Nat→Nat) (T:Tt):Array Value:=#[.slice (a 0) T.st.length (c 0),.slice (a 1) T.ro.length (c 1),.slice (a 2) T.ca.length (c 2),.slice (a 3) T.ex.length (c 3),.slice (a 4) T.tr.length (c 4),.slice (a 5) T.fr.length (c 5),.slice (a 6) T.th.length (c 6),.slice (a 7) T.gu.length (c 7),.slice (a 8) T.pa.length (c 8),.slice (a 9) T.pr.length (c 9),.int .i64 T.di,.int .i64 T.wi,.int .i64 T.cp]
theorem Jqs {w:World} {F:Nat} {a:Nat→Option Addr} {c:Nat→Nat} {U:Tt} (h:w.rangeAt F 2 [.slice (a 0) U.st.length (c 0),.slice (a 1) U.ro.length (c 1),.slice (a 2) U.ca.length (c 2),.slice (a 3) U.ex.length (c 3),.slice (a 4) U.tr.length (c 4),.slice (a 5) U.fr.length (c 5),.slice (a 6) U.th.length (c 6),.slice (a 7) U.gu.length (c 7),.slice (a 8) U.pa.length (c 8),.slice (a 9) U.pr.length (c 9),.int .i64 U.di,.int .i64 U.wi,.int .i64 U.cp]):w.cell? ⟨F,2,none⟩=some (.slice (a 0) U.st.length (c 0))∧w.cell? ⟨F,3,none⟩=some (.slice (a 1) U.ro.length (c 1))∧w.cell? ⟨F,4,none⟩=some (.slice (a 2) U.ca.length (c 2))∧w.cell? ⟨F,5,none⟩=some (.slice (a 3) U.ex.length (c 3))∧w.cell? ⟨F,6,none⟩=some (.slice (a 4) U.tr.length (c 4))∧w.cell? ⟨F,7,none⟩=some (.slice (a 5) U.fr.length (c 5))∧w.cell? ⟨F,8,none⟩=some (.slice (a 6) U.th.length (c 6))∧w.cell? ⟨F,9,none⟩=some (.slice (a 7) U.gu.length (c 7))∧w.cell? ⟨F,10,none⟩=some (.slice (a 8) U.pa.length (c 8))∧w.cell? ⟨F,11,none⟩=some (.slice (a 9) U.pr.length (c 9))∧w.cell? ⟨F,12,none⟩=some (.int .i64 U.di)∧w.cell? ⟨F,13,none⟩=some (.int .i64 U.wi)∧w.cell? ⟨F,14,none⟩=some (.int .i64 U.cp):=⟨h 0 _ rfl,h 1 _ rfl,h 2 _ rfl,h 3 _ rfl,h 4 _ rfl,h 5 _ rfl,h 6 _ rfl,h 7 _ rfl,h 8 _ rfl,h 9 _ rfl,h 10 _ rfl,h 11 _ rfl,h 12 _ rfl⟩
theorem Jdj (b:Nat):∀(l:List Value) (o:Nat) (w:World),w.grownBy (w.setCells b o l) (some b)
 | [],_,_=>Jbm (Below.refl _ _) _
 | v::l,o,w=>(Jbi w b o v).trans (Jdj b l (o+1) _)
theorem Qbu {w:World} {b:Nat} {t:TypeId} (h:w.heap[b]?=some (.cells zT t (0,0))) (v0 v1 v2 v3 v4 v5 v6 v7 v8 v9 v10 v11 v12:Value):(w.setCells b 0 [v0,v1,v2,v3,v4,v5,v6,v7,v8,v9,v10,v11,v12]).heap[b]?=some (.cells #[v0,v1,v2,v3,v4,v5,v6,v7,v8,v9,v10,v11,v12] t (0,0)):=by
 have h:=heap_setCell_same _ b 0 _ t v0 h;have h:=heap_setCell_same _ b 1 _ t v1 h;have h:=heap_setCell_same _ b 2 _ t v2 h;have h:=heap_setCell_same _ b 3 _ t v3 h;have h:=heap_setCell_same _ b 4 _ t v4 h;have h:=heap_setCell_same _ b 5 _ t v5 h;have h:=heap_setCell_same _ b 6 _ t v6 h;have h:=heap_setCell_same _ b 7 _ t v7 h;have h:=heap_setCell_same _ b 8 _ t v8 h;have h:=heap_setCell_same _ b 9 _ t v9 h;have h:=heap_setCell_same _ b 10 _ t v10 h;have h:=heap_setCell_same _ b 11 _ t v11 h;have h:=heap_setCell_same _ b 12 _ t v12 h;simp only [List.setIfInBounds_toArray,List.set_cons_zero,List.set_cons_succ] at h;simp only [World.setCells,Nat.zero_add,Nat.reduceAdd];exact h
theorem Jgh:(prog.info? 36).map (·.size)=some 13:=by kernel_rfl
def PaR (F_:Fm) (s:Bs) (w:World) (e:Ending) (w':World):Prop:=∃a c U,e=.returned (.tuple #[ttV a c U,.int .i64 (Jbe F_ s).2.1,.int .i64 (Jbe F_ s).2.2])∧CopT (Jbe F_ s).1 U∧TtL w' a c U∧manT U=true∧OkTt U∧LnTt U∧Below w.heap.size w w'
theorem PaR.err {F_:Fm} {s:Bs} {w w':World} {n z:Int} (h:Jbe F_ s=(T0,n,z)) (b:Below w.heap.size w w'):PaR F_ s w (.returned (.tuple #[.agg zT,.int .i64 n,.int .i64 z])) w':=by
 refine⟨fun _=>none,fun _=>0,T0,by rw [h];rfl,by rw [h];exact⟨rfl,rfl,rfl,rfl,rfl,rfl,rfl,rfl,rfl,rfl,rfl,rfl,rfl⟩,⟨LstG.nil _ _,LstG.nil _ _,LstG.nil _ _,LstG.nil _ _,⟨LstG.nil _ _,fun x h=>by cases h⟩,LstG.nil _ _,LstG.nil _ _,LstG.nil _ _,LstG.nil _ _,LstG.nil _ _⟩,by decide,Jkm.1,?_,b⟩;unfold LnTt T0;decide
theorem J4a {s:Bs} (h:(linR s).2=0):(Jag (linR s).1).length≤65536:=by
 unfold linR at h ⊢;by_cases h1:65536<s.length
 ·rw [if_pos h1] at h;cases h
 ·rw [if_neg h1] at h ⊢
  by_cases h2:s=[]
  ·rw [if_pos h2];exact Nat.zero_le _
  ·rw [if_neg h2] at h ⊢
   by_cases h3:s[s.length - 1]?=some 10
   ·rw [if_pos h3]
    have:=(Jwd h2 h3 (by omega)).2.1;show (Jag (cutL s).1).length≤65536
    rw [this];omega
   ·rw [if_neg h3] at h;cases h
theorem Jqt {ls:List Bs} {r:Rd} {n:Int} (h:Inv ls r n) (hc:(ttC r.T).2.2≠0):∃p:Nat,p<10∧(ttC r.T).1=(p:Int)∧(((ttC r.T).2.1<0∧r.fa=whr r (ttC r.T).1 (ttC r.T).2.1∧whr r (ttC r.T).1 (ttC r.T).2.1≠0)∨∃j:Nat,(ttC r.T).2.1=(j:Int)∧(r.ln.getD p [])[j]?=some (whr r (ttC r.T).1 (ttC r.T).2.1)):=by
 obtain⟨p,-,hp,e,hne⟩:=Jv7 10 0 hc;have hp:p<10:=by omega
 have e:ttC r.T=((p:Int),(Jav r.T p).1,(Jav r.T p).2):=e;refine⟨p,hp,by rw [e],?_⟩;rw [e];show ((Jav r.T p).1<0∧r.fa=whr r (p:Int) (Jav r.T p).1∧whr r (p:Int) (Jav r.T p).1≠0)∨∃j:Nat,(Jav r.T p).1=(j:Int)∧(r.ln.getD p [])[j]?=some (whr r (p:Int) (Jav r.T p).1)
 unfold whr;rw [Int.toNat_natCast,h.len p hp];rcases Jp0 r.T p hne with ⟨h0,h1⟩ | ⟨h9,hm,hz⟩
 ·right
  rw [if_neg (by omega)];have hi:(Jav r.T p).1.toNat<(r.ln.getD p []).length:=by rw [h.len p hp];omega
  refine⟨(Jav r.T p).1.toNat,by omega,?_⟩;rw [List.getD_eq_getElem?_getD (l:=r.ln.getD p []),List.getElem?_eq_getElem hi];rfl
 ·left
  rw [hm,if_pos (.inl (by decide))];refine⟨by decide,rfl,fun h0=>hz (h.no h0)⟩
theorem Pa.on {w1 W W':World} {F N:Nat} {r:Rd} (h:Pa w1 F r N W) (b:Below W.heap.size W W'):Pa w1 F r N W':=by
 obtain⟨vs,ts,U,lw,B,m,V,lx,G,rest⟩:=h;exact⟨vs,ts,U,lw,B,m,V,lx,G.on b,rest⟩
def LpI (F_:Fm) (w1:World) (F:Nat) (ls:List Bs) (k:Nat) (wr:World):Prop:=∃r N,N≤k∧Pa w1 F r N wr∧goR F_ ls 1 R0=goR F_ (ls.drop k) ((k:Int)+1) r∧Ok6 r.T∧Inv ls r ((k:Int)+1)
theorem Pa.low {w1 W:World} {F N:Nat} {r:Rd} (h:Pa w1 F r N W):Below w1.heap.size w1 W:=by
 obtain⟨vs,ts,U,lw,B,m,V,lx,G,_⟩:=h;exact G.base
theorem Pa.few {w1 W:World} {F N:Nat} {r:Rd} (h:Pa w1 F r N W) (i:Nat) (hi:i<10):lenP r.T i≤N:=by
 obtain⟨vs,ts,U,lw,B,m,V,lx,G,_,PT,_⟩:=h;rw [←J8c PT.cop i hi];exact PT.few i hi
theorem LpI.next {F_:Fm} (hB:FmB F_) {w1 wr w3:World} {F N k:Nat} {ls:List Bs} {r:Rd} {x:Bs} (hN:N≤k) (hk:k≤65536) (P:Pa w1 F r N wr) (hg:goR F_ ls 1 R0=goR F_ (ls.drop k) ((k:Int)+1) r) (ok:Ok6 r.T) (iv:Inv ls r ((k:Int)+1)) (hx:ls[k]?=some x) (h0:(oneR F_ r x ((k:Int)+1)).1=0) {N':Nat} (hN':N'≤k+1) (P':Pa w1 F (oneR F_ r x ((k:Int)+1)).2 N' w3):LpI F_ w1 F ls (k+1) w3:=by
 have e1:ls.drop k=x::ls.drop (k+1):=by
  have hl:=(List.getElem?_eq_some_iff.1 hx);obtain⟨hl,e⟩:=hl;rw [List.drop_eq_getElem_cons hl,e]
 refine⟨_,N',hN',P',?_,J8a F_ hB ok (fun i hi=>by have:=P.few i hi;omega) x _,?_⟩
 ·rw [hg,e1,Jfe,if_neg (fun q=>q h0)]
  congr 1
 ·have:=iv.on (F:=F_) (by omega) (x:=x) (by rw [show ((k:Int)+1 - 1).toNat=k by omega];exact hx) (r':=(oneR F_ r x ((k:Int)+1)).2) (Prod.ext h0 rfl)
  exact this
theorem J8d (F_:Fm) (hB:FmB F_) {w:World} (FO:∀w',Below w.heap.size w w'→Fo F_ w') (hk:Jkl w) (s:Bs) (hs:s.length≤1099511627776) :
  Calls prog 10 #[.string (str s)] w fun e w'=>PaR F_ s w e w':=by
 suffices h:∀Z:Ending→World→Prop,(∀e w',PaR F_ s w e w'→Z e w')→Calls prog 10 #[.string (str s)] w fun e w'=>Z e w' from h _ (fun _ _ h=>h)
 intro Z hZ;have HZ:=Lib.hid hZ;clear hZ;obtain⟨wa,hwa⟩:∃X,w.alloc (.cells zT 36 (0,0))=X:=⟨_,rfl⟩;have ba:Below w.heap.size w wa:=by rw [←hwa];exact (Below.refl _ _).alloc (Nat.le_refl _) _
 have ha:wa.heap[w.heap.size]?=some (.cells zT 36 (0,0)):=by rw [←hwa];exact heap_alloc_new _ _
 have hla:wa.heap.size=w.heap.size+1:=by rw [←hwa];simp
 obtain⟨ls,z,hz⟩:∃ls z,linR s=(ls,z):=⟨_,_,rfl⟩;have C0:=S4.flines_any (str s) (by rw [Jaf];exact hs) wa;rw [show S4.linesR (str s).data.toList=(ls,z) from hz] at C0;have C0:=Lib.hid C0;have hzT:(prog.info? 36).map (·.size)=some zT.size:=Jgh;by_cases h0:z=0
 ·subst h0
  have hfe:Jbe F_ s=if (goR F_ ls 1 R0).2.1≠0 then (T0,(goR F_ ls 1 R0).1,(goR F_ ls 1 R0).2.1) else if (ttC (goR F_ ls 1 R0).2.2.T).2.2≠0 then (T0,whr (goR F_ ls 1 R0).2.2 (ttC (goR F_ ls 1 R0).2.2.T).1 (ttC (goR F_ ls 1 R0).2.2.T).2.1,(ttC (goR F_ ls 1 R0).2.2.T).2.2) else ((goR F_ ls 1 R0).2.2.T,0,0):=by
   unfold Jbe;rw [hz,if_neg (fun q=>q rfl)]
  have hl5:=J4a (s:=s) (by rw [hz]);rw [hz] at hl5;have hl5:(Jag ls).length≤65536:=hl5;have hll:ls.length≤65536:=Nat.le_trans (Jqr ls) hl5;have hxl:∀x∈ls,x.length≤65536:=fun x hx=>Nat.le_trans (Jgn hx) hl5
  clear hz;generalize str s=ss at C0 ⊢;go_enter func10,ntmps10
  go_wp2_with fail
  refine C0.out.mono ?_;rintro q w1 ⟨v,rfl,ho,hb⟩;dsimp only at ho ⊢;obtain⟨A0,c0,rfl,-,-,hcl⟩:=Jbf ho;have HC:=Lib.hid hcl;have r1:w1.heap[w.heap.size]?=some (.cells zT 36 (0,0)):=(hb.block _ (by omega)).trans ha;have hl1:w.heap.size<w1.heap.size:=by have:=hb.size;omega
  have B1:Below w.heap.size w w1:=ba.trans (hb.mono (by omega));have FO1:=FO w1 B1;have HR:=Lib.hid (And.intro r1 (And.intro hl1 (And.intro B1 FO1)));have NW:=Lib.hid (Jxx w1);clear C0 ho hb B1 ba ha hla hwa hcl r1 hl1 FO1 FO;go_wp2_with fail
  refine NW.out.mono ?_;rintro q w2 ⟨rfl,hp⟩;obtain⟨F,hF⟩:∃F,w1.heap.size+5=F:=⟨_,rfl⟩;rw [hF] at hp ⊢;have I0:Hid (LpI F_ w1 F ls 0 w2):=Lib.hid ⟨R0,0,Nat.le_refl _,hp,rfl,Jkm,Inv.start ls⟩;clear hp NW;have HFE:=Lib.hid hfe;have HK:=Lib.hid hk;have HX:=Lib.hid hxl;have HZT:=Lib.hid hzT;have HF:=Lib.hid hF;clear hfe hk hxl hzT hF;go_wp2_with fail
  go_loopw [26] (fun i wr=>∃k:Nat,i=.int .i64 k∧k≤ls.length∧Hid (LpI F_ w1 F ls k wr)) (fun i _=>ls.length - (intOf i).toNat)
  case atStart=>exact⟨0,rfl,Nat.zero_le _,I0⟩
  case round =>
   obtain⟨k,rfl,hk,LI⟩:=hrel;by_cases hlt:k<ls.length
   ·obtain⟨x,hx⟩:=Jhb hlt
    obtain⟨g,rfl,-,hg1,hcell⟩:=HC.out (by omega);have m1:wr.cell? ⟨g,k,none⟩=some (.string (str x)):=by
     obtain⟨r,N,hN,P,hg,ok,iv⟩:=LI.out;have:=hcell k _ (Jod hx);rw [Nat.zero_add] at this;rw [←this];unfold World.cell?;rw [P.low.block g hg1]
    have gk:(k:Int)<(ls.length:Int):=by omega
    have CI:=Jxy x;have hk':=hlt;clear hcell;cases hi:ign x with
    | true =>
     rw [hi] at CI;have CI:=Lib.hid CI;have K2:Hid (LpI F_ w1 F ls (k+1) wr):=Lib.hid (by
      obtain⟨r,N,hN,P,hg,ok,iv⟩:=LI.out;have e:oneR F_ r x ((k:Int)+1)=(0,r):=by unfold oneR;rw [hi];rfl
      exact LpI.next hB hN (by omega) P hg ok iv hx (by rw [e]) (N':=N) (by omega) (by rw [e];exact P))
     clear hx hi LI I0;generalize str x=sx at m1 CI;go_wp2_with fail
     refine (CI.out _).mono ?_;rintro e w' ⟨rfl,rfl⟩;go_wp2_with fail
     go_roundw
     case rel=>exact⟨k+1,by go_num,by omega,K2⟩
     case measure=>simp [intOf];omega
    | false =>
     rw [hi] at CI;have CI:=Lib.hid CI;obtain⟨r,N,hN,P,hg,ok,iv⟩:=LI.out;have CR:=Jxv F_ HR.out.2.2.2 P (by omega) x (HX.out x (List.mem_of_getElem? hx)) hi ((k:Int)+1) (by omega);by_cases h1:(oneR F_ r x ((k:Int)+1)).1=0
     ·rw [h1] at CR
      have NX:=Lib.hid (fun w3 (P':Pa w1 F (oneR F_ r x ((k:Int)+1)).2 (N+1) w3)=>LpI.next hB hN (by omega) P hg ok iv hx h1 (by omega) P');have CR:=Lib.hid CR;clear hx hi LI I0 P hg ok iv h1;generalize str x=sx at m1 CI CR;go_wp2_with fail
      refine (CI.out _).mono ?_;rintro e w' ⟨rfl,rfl⟩;go_wp2_with fail
      refine CR.out.mono ?_;rintro e w3 ⟨rfl,-,hp3⟩;have K2:=Lib.hid (NX.out w3 (hp3 trivial));clear hp3 CR NX CI m1;go_wp2_with fail
      go_roundw
      case rel=>exact⟨k+1,by go_num,by omega,K2⟩
      case measure=>simp [intOf];omega
     ·have hfe:Jbe F_ s=(T0,(k:Int)+1,(oneR F_ r x ((k:Int)+1)).1):=by
       have e1:ls.drop k=x::ls.drop (k+1):=by
        obtain⟨hl,e⟩:=List.getElem?_eq_some_iff.1 hx;rw [List.drop_eq_getElem_cons hl,e]
       have e2:goR F_ ls 1 R0=((k:Int)+1,(oneR F_ r x ((k:Int)+1)).1,(oneR F_ r x ((k:Int)+1)).2):=by rw [hg,e1,Jfe,if_pos h1]
       rw [HFE.out,e2,if_pos h1]
      obtain⟨zz,hzz⟩:∃zz,(oneR F_ r x ((k:Int)+1)).1=zz:=⟨_,rfl⟩;rw [hzz] at CR hfe h1;have CR:=Lib.hid CR;have HP:=Lib.hid (fun w' (b:Below w.heap.size w w')=>PaR.err (w:=w) (w':=w') hfe b);have hzT:=HZT.out;clear hx hi LI I0 P hg ok iv hzz hfe;generalize str x=sx at m1 CI CR;go_wp2_with fail
      refine (CI.out _).mono ?_;rintro e w' ⟨rfl,rfl⟩;go_wp2_with fail
      refine CR.out.mono ?_;rintro e w3 ⟨rfl,hb3,-⟩;have r0:w3.heap[w.heap.size]?=some (.cells zT 36 (0,0)):=(hb3.block _ HR.out.2.1).trans HR.out.1;have R1:=Lib.hid (HZ.out _ _ (HP.out w3 (HR.out.2.2.1.trans (hb3.mono (by have:=HR.out.2.1;omega)))));clear hb3 CR CI m1;obtain⟨y0,z0,x0,y1,z1,x1,y2,z2,x2,y3,z3,x3,y4,z4,x4,y5,z5,x5,y6,z6,x6,y7,z7,x7,y8,z8,x8,y9,z9,x9,y10,z10,x10,y11,z11,x11,y12,z12,x12⟩:=Jgp r0;go_wp2_with fail
      (try simp only [Exit.inBlock,Exit.then]);refine bodyPost_ret (Jbk rfl _ _ w.heap.size 36 zT (0,0) _ rfl r0 underlying36 rfl hzT) rfl ?_
      exact R1.out
   ·obtain rfl:k=ls.length:=by omega
    have gk:decide ((ls.length:Int)<(ls.length:Int))=false:=by simp
    obtain⟨r,N,hN,P,hg,ok,iv⟩:=LI.out;have hgo:goR F_ ls 1 R0=(0,0,r):=by rw [hg,List.drop_length];rfl
    have hfr:=J7u F_ ls 1 R0 (by rw [hgo]);rw [hgo] at hfr;have hfr:r.T.fr.length*14≤0*14+(Jag ls).length:=hfr;have P':=P;obtain⟨vs,ts,U,lw,B,m,V,lx,G,e1,PT,L,hcl⟩:=P';have okU:=ok.cop PT.cop;obtain⟨a,c,hX,hrg⟩:=PT.ttL G (by omega) okU;have man:manT U=true:=by
     refine Jca.2 ⟨?_,fun x hx=>?_⟩
     ·have f0:=PT.few 0 (by omega)
      have f1:=PT.few 1 (by omega);have f2:=PT.few 2 (by omega);have f3:=PT.few 3 (by omega);have f4:=PT.few 4 (by omega);have f5:U.fr.length*14≤65536:=by rw [PT.cop.fr];omega
      have f6:=PT.few 6 (by omega);have f7:=PT.few 7 (by omega);have f8:=PT.few 8 (by omega);have f9:=PT.few 9 (by omega);simp only [lenP] at f0 f1 f2 f3 f4 f6 f7 f8 f9;unfold manN;omega
     ·have:=PT.fewc x hx
      unfold clT;omega
    have ln:LnTt U:=by
     have h:=(Jca.1 man).1;unfold manN at h;unfold LnTt;omega
    have CC:=ckM a c U wr man okU.1 ln (hX wr (fun i r h=>G.row h));rw [PT.cop.ttC] at CC;have r0:wr.heap[w.heap.size]?=some (.cells zT 36 (0,0)):=(G.base.block _ HR.out.2.1).trans HR.out.1;obtain⟨q0,q1,q2,q3,q4,q5,q6,q7,q8,q9,q10,q11,q12⟩:=Jqs hrg;by_cases hc:(ttC r.T).2.2=0
    ·have hf2:Jbe F_ s=(r.T,0,0):=by rw [HFE.out,hgo,if_neg (fun q=>q rfl),if_neg (fun q=>q hc)]
     rw [hc] at CC;have CC:=Lib.hid CC;generalize (ttC r.T).1=t1 at CC;generalize (ttC r.T).2.1=t2 at CC;have HG:=Lib.hid (And.intro hrg (And.intro r0 G));clear hrg hg hgo hfr LI I0 P e1 L hcl r0 G;go_wp2_with fail
     refine CC.out.mono ?_;rintro e w4 ⟨rfl,hb4⟩;clear q0 q1 q2 q3 q4 q5 q6 q7 q8 q9 q10 q11 q12;have G4:=HG.out.2.2.on hb4;have r4:w4.heap[w.heap.size]?=some (.cells zT 36 (0,0)):=(hb4.block _ (Nat.lt_of_lt_of_le HR.out.2.1 HG.out.2.2.base.size)).trans HG.out.2.1;obtain⟨q0,q1,q2,q3,q4,q5,q6,q7,q8,q9,q10,q11,q12⟩:=Jqs (w:=w4) (F:=F) (a:=a) (c:=c) (U:=U) (fun j v hj=>by
      rw [←HG.out.1 j v hj];unfold World.cell?;rw [hb4.block F HG.out.2.2.lt])
     obtain⟨y0,z0,x0,y1,z1,x1,y2,z2,x2,y3,z3,x3,y4,z4,x4,y5,z5,x5,y6,z6,x6,y7,z7,x7,y8,z8,x8,y9,z9,x9,y10,z10,x10,y11,z11,x11,y12,z12,x12⟩:=Jgp r4;clear x0 x1 x2 x3 x4 x5 x6 x7 x8 x9 x10 x11 x12;go_wp2_with fail
     have g5:=Jdj w.heap.size [.slice (a 0) U.st.length (c 0),.slice (a 1) U.ro.length (c 1),.slice (a 2) U.ca.length (c 2),.slice (a 3) U.ex.length (c 3),.slice (a 4) U.tr.length (c 4),.slice (a 5) U.fr.length (c 5),.slice (a 6) U.th.length (c 6),.slice (a 7) U.gu.length (c 7),.slice (a 8) U.pa.length (c 8),.slice (a 9) U.pr.length (c 9),.int .i64 U.di,.int .i64 U.wi,.int .i64 U.cp] 0 w4;have s5:=Qbu r4 (.slice (a 0) U.st.length (c 0)) (.slice (a 1) U.ro.length (c 1)) (.slice (a 2) U.ca.length (c 2)) (.slice (a 3) U.ex.length (c 3)) (.slice (a 4) U.tr.length (c 4)) (.slice (a 5) U.fr.length (c 5)) (.slice (a 6) U.th.length (c 6)) (.slice (a 7) U.gu.length (c 7)) (.slice (a 8) U.pa.length (c 8)) (.slice (a 9) U.pr.length (c 9)) (.int .i64 U.di) (.int .i64 U.wi) (.int .i64 U.cp);simp only [World.setCells,Nat.zero_add,Nat.reduceAdd] at g5 s5;have T5:=hX _ (Gst.rows G4 g5 HR.out.2.1);have B5:=Jby (HR.out.2.2.1.trans (G4.base.mono (by have:=HR.out.2.1;omega))) g5 (fun k e=>by cases e;exact Nat.le_refl _)
     (try simp only [Exit.inBlock,Exit.then]);refine bodyPost_ret (Jbk rfl _ _ w.heap.size 36 (csT a c U) (0,0) _ rfl s5 underlying36 rfl Jgh) rfl ?_
     exact HZ.out _ _ ⟨a,c,U,by rw [hf2];rfl,by rw [hf2];exact PT.cop,T5,man,okU.1,ln,B5⟩
    ·obtain⟨p,hp,ep,hw⟩:=Jqt iv hc
     have hf2:Jbe F_ s=(T0,whr r (ttC r.T).1 (ttC r.T).2.1,(ttC r.T).2.2):=by rw [HFE.out,hgo,if_neg (fun q=>q rfl),if_pos hc]
     obtain⟨y,hy⟩:∃y,whr r (ttC r.T).1 (ttC r.T).2.1=y:=⟨_,rfl⟩;rw [hy] at hw hf2;rw [ep] at CC;clear hy;generalize (ttC r.T).2.1=t2 at CC hw hf2;generalize (ttC r.T).2.2=t3 at CC hc hf2;have CC:=Lib.hid CC;have LO:=Lib.hid (fun w4 (hb4:Below wr.heap.size wr w4)=>Jxz (P.on hb4) (HK.out.below (HR.out.2.2.1.trans ((P.on hb4).low.mono (by have:=HR.out.2.1;omega)))) p hp t2 y hw);have HP:=Lib.hid (fun w' (b:Below w.heap.size w w')=>PaR.err (w:=w) (w':=w') hf2 b);have HG:=Lib.hid (And.intro r0 G.base);clear hrg hg hgo hfr LI I0 P e1 L hcl r0 G hw hf2 man ln okU hX PT ok iv;go_wp2_with fail
     refine CC.out.mono ?_;rintro e w4 ⟨rfl,hb4⟩;clear q0 q1 q2 q3 q4 q5 q6 q7 q8 q9 q10 q11 q12;have LO:=Lib.hid (LO.out w4 hb4);have hl:=HG.out.2.size;have r4:w4.heap[w.heap.size]?=some (.cells zT 36 (0,0)):=(hb4.block _ (Nat.lt_of_lt_of_le HR.out.2.1 hl)).trans HG.out.1;have B4:Below w.heap.size w w4:=HR.out.2.2.1.trans ((HG.out.2.trans (hb4.mono hl)).mono (by have:=HR.out.2.1;omega));have H4:=Lib.hid (And.intro r4 (And.intro B4 (Nat.lt_of_lt_of_le HR.out.2.1 (Nat.le_trans hl hb4.size))));clear r4 B4 hl hb4;go_wp2_with fail
     refine LO.out.mono ?_;rintro e w5 ⟨rfl,hb5⟩;have r5:w5.heap[w.heap.size]?=some (.cells zT 36 (0,0)):=(hb5.block _ H4.out.2.2).trans H4.out.1;have R1:=Lib.hid (HZ.out _ _ (HP.out w5 (H4.out.2.1.trans (hb5.mono (Nat.le_of_lt H4.out.2.2)))));obtain⟨y0,z0,x0,y1,z1,x1,y2,z2,x2,y3,z3,x3,y4,z4,x4,y5,z5,x5,y6,z6,x6,y7,z7,x7,y8,z8,x8,y9,z9,x9,y10,z10,x10,y11,z11,x11,y12,z12,x12⟩:=Jgp r5;clear LO hb5;go_wp2_with fail
     (try simp only [Exit.inBlock,Exit.then]);refine bodyPost_ret (Jbk rfl _ _ w.heap.size 36 zT (0,0) _ rfl r5 underlying36 rfl Jgh) rfl ?_
     exact R1.out
 ·have hfe:Jbe F_ s=(T0,0,z):=by unfold Jbe;rw [hz,if_pos h0]
  generalize str s=ss at C0 ⊢;go_enter func10,ntmps10
  go_wp2_with fail
  refine C0.out.mono ?_;rintro q w1 ⟨v,rfl,ho,hb⟩;dsimp only at ho ⊢;obtain⟨A0,c0,rfl,-⟩:=Jbf ho;have r0:w1.heap[w.heap.size]?=some (.cells zT 36 (0,0)):=(hb.block _ (by omega)).trans ha;have B1:Below w.heap.size w w1:=ba.trans (hb.mono (by omega));have R1:=Lib.hid (HZ.out _ _ (PaR.err hfe B1));clear C0 ho hb B1 ba ha hla hwa;obtain⟨y0,z0,x0,y1,z1,x1,y2,z2,x2,y3,z3,x3,y4,z4,x4,y5,z5,x5,y6,z6,x6,y7,z7,x7,y8,z8,x8,y9,z9,x9,y10,z10,x10,y11,z11,x11,y12,z12,x12⟩:=Jgp r0;go_wp2_with fail
  (try simp only [Exit.inBlock,Exit.then]);refine bodyPost_ret (Jbk rfl _ _ w.heap.size 36 zT (0,0) _ rfl r0 underlying36 rfl hzT) rfl ?_
  exact R1.out
end
end Go.Proofs.YtpifdbphmnifdaaGreatDoor
