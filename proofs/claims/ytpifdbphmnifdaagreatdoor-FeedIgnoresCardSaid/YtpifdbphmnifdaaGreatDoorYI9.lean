/-
  Facts of the proof. Condition: each theorem's own.
-/
import Derived.BigRegion
import Derived.Deep.DeepCutAuto
import Derived.Test.YtpifdbphmnifdaaGreatDoorYI7
import Derived.Test.YtpifdbphmnifdaaGreatDoorYI8
set_option maxRecDepth 100000
set_option maxHeartbeats 8000000
open Go.Proofs.Tryz
namespace Go.Proofs.YtpifdbphmnifdaaGreatDoor
namespace S20
open Go
abbrev Ed:=Nat×Nat×Nat
def lab (f:List Int) (e:Ed):List Int:=if f.getD e.1 0<f.getD e.2.1 0 then f.set e.2.1 (f.getD e.1 0) else f.set e.1 (f.getD e.2.1 0)
abbrev Fp:=Int×Int×Int×Bool
def kyP (x:Fp):Int×Int×Bool:=(x.1,x.2.1,x.2.2.2)
def badP (st:Int) (seen:List (Int×Int×Bool)) (x:Fp):Int :=
 if ¬(0≤x.1∧x.1<st)∨¬(0≤x.2.1∧x.2.1<st)∨x.1=x.2.1 then 9 else if ¬(1≤x.2.2.1∧x.2.2.1≤14400) then 2 else if kyP x∈seen then 6 else 0
section
variable {st:Int} {seen:List (Int×Int×Bool)} {x:Fp}
theorem Jvq (h:¬(0≤x.1∧x.1<st)):badP st seen x=9:=by unfold badP;rw [if_pos (.inl h)]
theorem J6n (h:¬(0≤x.2.1∧x.2.1<st)):badP st seen x=9:=by unfold badP;rw [if_pos (.inr (.inl h))]
theorem Jvr (h:x.1=x.2.1):badP st seen x=9:=by unfold badP;rw [if_pos (.inr (.inr h))]
theorem Jrx (h1:0≤x.1∧x.1<st) (h2:0≤x.2.1∧x.2.1<st) (h3:x.1≠x.2.1) (h:¬(1≤x.2.2.1∧x.2.2.1≤14400)):badP st seen x=2:=by
 unfold badP;rw [if_neg (by omega),if_pos h]
theorem Jry (h1:0≤x.1∧x.1<st) (h2:0≤x.2.1∧x.2.1<st) (h3:x.1≠x.2.1) (h4:1≤x.2.2.1∧x.2.2.1≤14400) (h:kyP x∈seen):badP st seen x=6:=by
 unfold badP;rw [if_neg (by omega),if_neg (by omega),if_pos h]
theorem J6o (h1:0≤x.1∧x.1<st) (h2:0≤x.2.1∧x.2.1<st) (h3:x.1≠x.2.1) (h4:1≤x.2.2.1∧x.2.2.1≤14400) (h:kyP x ∉ seen):badP st seen x=0:=by
 unfold badP;rw [if_neg (by omega),if_neg (by omega),if_neg h]
end
def vldP (st:Int) (l:List Fp):Int×Int:=fbF (badP st) kyP [] 0 l
def chkP (st:Int) (l:List Fp):Int×Int:=if 512<l.length then (0,5) else vldP st l
theorem Jvs {st:Int} {l:List Fp} (h:512<l.length):chkP st l=(0,5):=by unfold chkP;rw [if_pos h]
theorem J0n {st:Int} {l:List Fp} (h:¬512<l.length):chkP st l=vldP st l:=by unfold chkP;rw [if_neg h]
open Go.RowKit
def fe (x:Fp):List Value:=[.int .i64 x.1,.int .i64 x.2.1,.int .i64 x.2.2.1,.bool x.2.2.2]
theorem fe_len (x:Fp):(fe x).length=4:=rfl
abbrev LstF:=@LstG Fp fe
theorem four_at {w:World} {A:Option Addr} {n c:Nat} {l:List Fp} (h:LstF w (.slice A n c) l) {i:Nat} {a b s:Int} {f:Bool} (hs:l[i]?=some (a,b,s,f)) :
  ∃k o,A=some ⟨k,o,none⟩∧k<w.heap.size∧w.cell? ⟨k,o+i*4,none⟩=some (.int .i64 a)∧w.cell? ⟨k,o+i*4+1,none⟩=some (.int .i64 b)∧w.cell? ⟨k,o+i*4+2,none⟩=some (.int .i64 s)∧w.cell? ⟨k,o+i*4+3,none⟩=some (.bool f):=by
 obtain⟨A',c',hv,_,_,hx⟩:=h;cases hv
 have hi:=(List.getElem?_eq_some_iff.1 hs).1;obtain⟨k,f,rfl,hb,hcell⟩:=hx (by omega);exact⟨k,f,rfl,hb,hcell (i*4) _ (by rw [←Nat.add_zero (i*4),Jbl fe_len hs 0 (by omega)];rfl),(hcell (i*4+1) _ (by rw [Jbl fe_len hs 1 (by omega)];rfl):_),(hcell (i*4+2) _ (by rw [Jbl fe_len hs 2 (by omega)];rfl):_),(hcell (i*4+3) _ (by rw [Jbl fe_len hs 3 (by omega)];rfl):_)⟩
abbrev boxF (a b s:Int) (f:Bool):Obj:=.cells #[.int .i64 a,.int .i64 b,.int .i64 s,.bool f] 63 (0,0)
abbrev fpV (a b s:Int) (f:Bool):Value:=.agg #[.int .i64 a,.int .i64 b,.int .i64 s,.bool f]
theorem Jvt {w:World} {k:Nat} {a b s:Int} {f:Bool} (h:w.heap[k]?=some (boxF a b s f)) :
  w.cell? ⟨k,0,none⟩=some (.int .i64 a)∧w.cell? ⟨k,1,none⟩=some (.int .i64 b)∧w.cell? ⟨k,2,none⟩=some (.int .i64 s)∧w.cell? ⟨k,3,none⟩=some (.bool f) :=
 ⟨by rw [cell_of_row _ _ 0 _ _ _ h];rfl,by rw [cell_of_row _ _ 1 _ _ _ h];rfl,by rw [cell_of_row _ _ 2 _ _ _ h];rfl,by rw [cell_of_row _ _ 3 _ _ _ h];rfl⟩
theorem Jpt {w w7:World} {a b s:Int} {f:Bool} (h:w.alloc (boxF a b s f)=w7) :
  Below w.heap.size w w7∧w7.cell? ⟨w.heap.size,0,none⟩=some (.int .i64 a)∧w7.cell? ⟨w.heap.size,1,none⟩=some (.int .i64 b)∧w7.cell? ⟨w.heap.size,2,none⟩=some (.int .i64 s)∧w7.cell? ⟨w.heap.size,3,none⟩=some (.bool f)∧w.heap.size<w7.heap.size∧w7.heap[w.heap.size]?=some (boxF a b s f):=by
 subst h;have c7:=heap_alloc_new w (boxF a b s f);obtain⟨h0,h1,h2,h3⟩:=Jvt c7;exact⟨(Below.refl _ _).alloc (Nat.le_refl _) _,h0,h1,h2,h3,by simp,c7⟩
open Go.RowKit Go.Maps Go.WideMaps
abbrev Dm:=DataW Unit
def Ix64 (x:Int):Prop:=-9223372036854775808≤x∧x≤9223372036854775807
theorem J0o (w:World):(zeroValue 4).run prog w=.ok (.bool false) w:=by kernel_rfl
theorem pbool_inv {v:Value} {z:Dm×List MemPlace} (h:plainElem prog 4 v=some z):∃x,v=.bool x∧z=(.lit (.bool x),[]):=by
 unfold plainElem at h;rw [underlying4] at h;cases v <;> simp at h
 exact⟨_,rfl,h.symm⟩
theorem below_no {w w':World} (hb:Below w.heap.size w w'):w.grownBy w' none:=⟨hb.os,hb.tape,hb.output,hb.size,fun k hk _=>hb.block k hk⟩
theorem J6p:laidOutB prog=true:=by kernel_rfl
theorem J3r:(63:TypeId)<prog.types.size:=of_decide_eq_true (by kernel_rfl)
theorem J6q:(match prog.underlying 63 with | some (.array _ _) | some (.struct _)=>true | _=>false)=true:=by kernel_rfl
theorem Jpu:prog.cellsOf 63=4:=by kernel_rfl
theorem Jvu:prog.cellsOf 3=1:=by kernel_rfl
theorem Jvv:prog.cellsOf 4=1:=by kernel_rfl
theorem J9v:prog.keyType 63=true:=by kernel_rfl
theorem Jvw:Keyed prog 63:=Keyed.of_law (deep_law_laid J6p (m:=4) (by omega) J3r (by kernel_rfl) J6q)
theorem J0p:∃m,prog.types.size=m+1:=by
 cases h:prog.types.size with
 | zero=>exact absurd (h ▸ J3r:(_:Nat)<0) (Nat.not_lt_zero _)
 | succ m=>exact⟨m,rfl⟩
def Ky64 (p:Int×Int×Bool):Prop:=Ix64 p.1∧Ix64 p.2.1
abbrev kyV (p:Int×Int×Bool):Value:=fpV p.1 p.2.1 0 p.2.2
def kf (p:Int×Int×Bool):List UInt8:=keyBytes [.int .i64 p.1,.int .i64 p.2.1,.int .i64 0,.bool p.2.2]
theorem Jpv (p:Int×Int×Bool) (h:Ky64 p):keyOf prog 63 (kyV p)=some (.string (kf p)):=by
 have w1:=WalkArith.wf_i64 h.1;have w2:=WalkArith.wf_i64 h.2;have w3:=WalkArith.wf_i64 (n:=0) ⟨by decide,by decide⟩;have hu:=underlying63;have hi:=underlying3;have hb:=underlying4;obtain⟨m,hm⟩:=J0p;unfold keyOf;simp only [hu];rw [if_pos (by simp [J9v,Value.formed,hu,Jpu]),hm];unfold Program.keyLits;simp only [hu,Value.cells];rw [if_pos ⟨by rw [Jpu];rfl,by simp⟩];simp [Jvu,Jvv,Program.keyLits,hi,hb,w1,w2,w3,kf]
theorem J3s {p q:Int×Int×Bool} (hp:Ky64 p) (hq:Ky64 q) (h:kf p=kf q):p=q:=by
 have h1:=Jpv p hp;have h2:=Jpv q hq;rw [←h] at h2;have:=Jvw.inj h1 h2;simp at this;exact Prod.ext this.1 (Prod.ext this.2.1 this.2.2)
def MapP (w:World) (b:Nat) (ls:List (Int×Int×Bool)):Prop:=(∀p∈ls,Ky64 p)∧∃D:Dm,w.ownsMap prog 63 (plainElem prog 4) b ls.length D∧IsMap D∧(∀p,Ky64 p→has D (.string (kf p))=decide (p∈ls))∧∀p z,p∈ls→D.atKey (.string (kf p)) z=.lit (.bool true)
theorem MapP.made (w:World):MapP (w.alloc (.map #[] 0)) w.heap.size []:=⟨fun p hp=>absurd hp (by simp),.map [],World.ownsMap_made _ _ _ _,isMap_empty,fun x _=>by simp [has_eq],fun x z h=>by simp at h⟩
theorem MapP.below {w w':World} {b:Nat} {ls:List (Int×Int×Bool)} (h:MapP w b ls) (hb:Below w.heap.size w w'):MapP w' b ls:=by
 obtain⟨h0,D,h1,h2⟩:=h;exact⟨h0,D,h1.kept (below_no hb) (by simp),h2⟩
theorem MapP.look {w:World} {b:Nat} {ls:List (Int×Int×Bool)} (h:MapP w b ls) (p:Int×Int×Bool) (hp:Ky64 p) :
  (Instr.lookup 258 (.map (some b)) (kyV p) false).run prog w=.ok (.bool (decide (p∈ls))) w:=by
 obtain⟨h0,D,h1,h2,h3,h4⟩:=h;obtain⟨v,ps,hrun,hv⟩:=h1.lookup Jvw underlying258 (J0o w) (plainElem_bool underlying4 false) (Jpv p hp);obtain⟨c,rfl,hc⟩:=pbool_inv hv;have hc:=congrArg Prod.fst hc;rw [hrun];have:c=decide (p∈ls):=by
  by_cases hm:p∈ls
  ·rw [h4 _ _ hm] at hc
   simp at hc;simp [hm,←hc]
  ·rw [atKey_of_not_has (by rw [h3 p hp];exact decide_eq_false hm)] at hc
   simp at hc;simp [hm,←hc]
 rw [this]
theorem MapP.update {w:World} {b:Nat} {ls:List (Int×Int×Bool)} (h:MapP w b ls) (p:Int×Int×Bool) (hp:Ky64 p) (hl:ls.length<1099511627776) :
  ∃w',(Instr.mapUpdate 258 (.map (some b)) (kyV p) (.bool true)).run prog w=.ok () w'∧MapP w' b (ls++[p])∧w.grownBy w' (some b):=by
 obtain⟨h0,D,h1,h2,h3,h4⟩:=h;obtain⟨w',hrun,g1,g2⟩:=h1.update Jvw underlying258 (by unfold maxLen;omega) (Jpv p hp) (plainElem_bool underlying4 true);refine⟨w',hrun,⟨fun q hq=>?_,_,by rw [List.length_append];exact g1,h2.put _ _,fun q hq=>?_,fun q z hi=>?_⟩,g2⟩
 ·rcases List.mem_append.1 hq with hq | hq
  ·exact h0 q hq
  ·rw [List.mem_singleton.1 hq];exact hp
 ·by_cases hx:q=p
  ·subst hx
   rw [has_put_same h2 (by simp [WideAt.IsKeyLit])];simp
  ·rw [has_put_other (fun e=>hx (J3s hq hp (by simpa using e))),h3 q hq]
   simp [hx]
 ·by_cases hx:q=p
  ·subst hx
   rw [atKey_put_same h2 (by simp [WideAt.IsKeyLit])]
  ·have hq:q∈ls:=by simpa [hx] using hi
   rw [atKey_put_other (fun e=>hx (J3s (h0 q hq) hp (by simpa using e)))];exact h4 q z hq
abbrev Ct:=Int×Int
variable {D:List Ed} {n b:Nat} {lab:List Ct} {Q:List (Int×Ct)} {X:List Nat} {T:List Ed} {N:Nat} {K:Int}
variable {L:List Ed} {n b:Nat} {lab:List Ct}
variable {par:List Int} {L:List Ed} {n:Nat}
open Go.RowKit Go.Sort
theorem Jrz (n:Int) (w:World):Calls prog 277 #[.int .i64 n] w fun e w'=>e=.returned (.bool (decide (1≤n∧n≤14400)))∧w=w':=by
 by_cases h1:1≤n
 ·by_cases h2:n≤14400
  ·have E:=Lib.hid (decide_eq_true (p:=1≤n∧n≤14400) ⟨h1,h2⟩)
   go_enter func277,ntmps277
   go_wp2_with fail
   go_ret;exact⟨Jaa E.out.symm,rfl⟩
  ·have E:=Lib.hid (decide_eq_false (p:=1≤n∧n≤14400) (fun h=>h2 h.2))
   have d2:decide (n≤14400)=false:=decide_eq_false h2;clear h2;go_enter func277,ntmps277
   go_wp2_with fail
   go_ret;exact⟨Jaa E.out.symm,rfl⟩
 ·have E:=Lib.hid (decide_eq_false (p:=1≤n∧n≤14400) (fun h=>h1 h.1))
  have d1:decide (1≤n)=false:=decide_eq_false h1;clear h1;go_enter func277,ntmps277
  go_wp2_with fail
  go_ret;exact⟨Jaa E.out.symm,rfl⟩
theorem Jim (a n:Int) (w:World):Calls prog 276 #[.int .i64 a,.int .i64 n] w fun e w'=>e=.returned (.bool (decide (0≤a∧a<n)))∧w=w':=by
 by_cases h1:0≤a
 ·by_cases h2:a<n
  ·have E:=Lib.hid (decide_eq_true (p:=0≤a∧a<n) ⟨h1,h2⟩)
   go_enter func276,ntmps276
   go_wp2_with fail
   go_ret;exact⟨Jaa E.out.symm,rfl⟩
  ·have E:=Lib.hid (decide_eq_false (p:=0≤a∧a<n) (fun h=>h2 h.2))
   have d2:decide (a<n)=false:=decide_eq_false h2;clear h2;go_enter func276,ntmps276
   go_wp2_with fail
   go_ret;exact⟨Jaa E.out.symm,rfl⟩
 ·have E:=Lib.hid (decide_eq_false (p:=0≤a∧a<n) (fun h=>h1 h.1))
  have d1:decide (0≤a)=false:=decide_eq_false h1;clear h1;go_enter func276,ntmps276
  go_wp2_with fail
  go_ret;exact⟨Jaa E.out.symm,rfl⟩
theorem Jjn {w:World} {b i:Nat} {v:Value} {cs:Array Value} {T:TypeId} {fr:Nat×Nat} (h:w.heap[b]?=some (.cells cs T fr)) (hc:cs.setIfInBounds i v=cs):w.setCell ⟨b,i,none⟩ v=w:=by
 unfold World.setCell;cases w with
 | mk hp tape drawn os out =>
  simp only at h ⊢;congr 1
  refine Array.ext_getElem? fun j=>?_
  rw [Array.getElem?_modify];split
  ·next e =>
   subst e;rw [h];simp [hc]
  ·rfl
theorem box_last {w w7:World} {a b s:Int} {f:Bool} (h:w.alloc (boxF a b s f)=w7):w7.frozen? ⟨w.heap.size,3,none⟩=false∧w7.setCell ⟨w.heap.size,3,none⟩ (.bool f)=w7:=by
 subst h;exact⟨frozen_of_row _ _ 3 _ _ (heap_alloc_new _ _),Jjn (heap_alloc_new _ _) rfl⟩
def L64 (l:List Fp):Prop:=∀x∈l,Ky64 (kyP x)
theorem Jr0 {q:Int×Int} {a b:Int} (h:q=(a,b)):Ending.returned (.tuple #[.int .i64 a,.int .i64 b])=Ending.returned (.tuple #[.int .i64 q.1,.int .i64 q.2]):=by rw [h]
theorem J9w {w w7 w8 w9:World} {a b s:Int} {f:Bool} (h7:w.alloc (boxF a b s f)=w7) (h8:w7.alloc (boxF a b s f)=w8) (h9:w8.setCell ⟨w7.heap.size,2,none⟩ (.int .i64 0)=w9) :
  (w8.cell? ⟨w7.heap.size,2,none⟩=some (.int .i64 s)∧w8.frozen? ⟨w7.heap.size,2,none⟩=false)∧w9.heap[w.heap.size]?=some (boxF a b s f)∧w9.heap[w7.heap.size]?=some (boxF a b 0 f)∧RowKit.Below w.heap.size w w9∧w.heap.size<w7.heap.size:=by
 obtain⟨b7,-,-,-,-,s7,c7⟩:=Jpt h7;obtain⟨b8,-,-,q2,-,s8,c8⟩:=Jpt h8;refine⟨⟨q2,frozen_of_row _ _ 2 _ _ c8⟩,?_,?_,?_,s7⟩
 ·rw [←h9,RowKit.Below.heap_setCell _ _ _ _ (by show w.heap.size≠w7.heap.size;omega)]
  exact (b8.block _ s7).trans c7
 ·rw [←h9]
  unfold World.setCell;rw [Array.getElem?_modify,if_pos rfl,c8];rfl
 ·rw [←h9]
  exact (b7.trans (b8.mono b7.size)).setCell b7.size _
theorem J6r (v:Value) (l:List Fp) (hl:l.length≤1000000) (st:Int) (h64:L64 l) (w:World) (h:LstF w v l):Calls prog 203 #[v,.int .i64 st] w fun e w'=>e=.returned (.tuple #[.int .i64 ((vldP st l).1),.int .i64 ((vldP st l).2)])∧Below w.heap.size w w':=by
 have hh:=h;obtain⟨A,c,rfl,-⟩:=hh;have H:=Lib.hid h;have H64:=Lib.hid h64;obtain⟨q,hq⟩:∃q,vldP st l=q:=⟨_,rfl⟩;rw [hq];obtain⟨w1,hw1⟩:∃W,w.alloc (.map #[] 0)=W:=⟨_,rfl⟩;have b1:RowKit.Below w.heap.size w w1:=by rw [←hw1];exact (RowKit.Below.refl _ _).alloc (Nat.le_refl _) _
 have M1:Hid (MapP w1 w.heap.size ((l.take 0).map kyP)):=by rw [←hw1];exact MapP.made w
 have B1:=Lib.hid b1;have Q1:Hid (q=fbF (badP st) kyP ((l.take 0).map kyP) 0 (l.drop 0)):=Lib.hid hq.symm;have hmm:=@run_makeMap prog;clear h h64 hq b1;go_enter func203,ntmps203
 go_wp2_with fail
 clear hmm;go_loopw [13] (fun i wr=>∃k:Nat,i=.int .i64 (k:Int)∧k≤l.length∧Hid (q=fbF (badP st) kyP ((l.take k).map kyP) k (l.drop k))∧Hid (MapP wr w.heap.size ((l.take k).map kyP))∧Hid (RowKit.Below w.heap.size w wr)) (fun i _=>l.length - (intOf i).toNat)
 case atStart=>exact⟨0,rfl,Nat.zero_le _,Q1,M1,B1⟩
 case round =>
  clear Q1 M1 B1 hw1;obtain⟨k,rfl,hk,HQ,HM,HB⟩:=hrel;by_cases hlt:k<l.length
  ·obtain⟨⟨a,b,s,f⟩,hx⟩:=Jao hlt
   obtain⟨b',o,rfl,hb,m0,m1,m2,m3⟩:=four_at (H.out.below HB.out) hx;have gk:(k:Int)<(l.length:Int):=by omega
   obtain⟨w7,hw7⟩:∃W,wr.alloc (boxF a b s f)=W:=⟨_,rfl⟩;obtain⟨w8,hw8⟩:∃W,w7.alloc (boxF a b s f)=W:=⟨_,rfl⟩;obtain⟨w9,hw9⟩:∃W,w8.setCell ⟨w7.heap.size,2,none⟩ (.int .i64 0)=W:=⟨_,rfl⟩;obtain⟨⟨r2,r2f⟩,c9,d9,b9,z7⟩:=J9w hw7 hw8 hw9;have hb7:=Jpt hw7;have hb8:=Jpt hw8;obtain⟨y0,y1⟩:=box_last hw7;obtain⟨x0,x1⟩:=box_last hw8;have e0:=(hb8.1.cell (p:=⟨wr.heap.size,0,none⟩) (by show wr.heap.size<_;omega)).trans hb7.2.1;have e1:=(hb8.1.cell (p:=⟨wr.heap.size,1,none⟩) (by show wr.heap.size<_;omega)).trans hb7.2.2.1;have e2:=(hb8.1.cell (p:=⟨wr.heap.size,2,none⟩) (by show wr.heap.size<_;omega)).trans hb7.2.2.2.1;have e3:=(hb8.1.cell (p:=⟨wr.heap.size,3,none⟩) (by show wr.heap.size<_;omega)).trans hb7.2.2.2.2.1;obtain⟨-,t0,t1,t2,t3,-,-⟩:=hb7;obtain⟨p0,p1,p2,p3⟩:=Jvt c9;obtain⟨q0,q1,q2,q3⟩:=Jvt d9;have B9:=Lib.hid (HB.out.trans (b9.mono HB.out.size));have M9:=Lib.hid (HM.out.below b9);have hky:Ky64 (a,b,f):=H64.out _ (List.mem_iff_getElem?.2 ⟨k,hx⟩);have IA:=Lib.hid (fun W=>Jim a st W);have IB:=Lib.hid (fun W=>Jim b st W);have IS:=Lib.hid (fun W=>Jrz s W);clear hb hb8 b9 c9 d9 HB HM z7;by_cases h1:¬(0≤a∧a<st)
   ·rw [decide_eq_false h1] at IA
    have R:=Lib.hid (Ja7 HQ.out hx (Jvq (x:=(a,b,s,f)) h1) (by decide));clear HQ hx;go_wp2_with fail
    refine (IA.out _).mono ?_;rintro e w' ⟨rfl,rfl⟩;go_wp2_with fail
    go_ret2;exact⟨Jr0 R.out,B9.out⟩
   have h1:=Decidable.not_not.1 h1;rw [decide_eq_true h1] at IA;by_cases h2:¬(0≤b∧b<st)
   ·rw [decide_eq_false h2] at IB
    have R:=Lib.hid (Ja7 HQ.out hx (J6n (x:=(a,b,s,f)) h2) (by decide));clear HQ hx;go_wp2_with fail
    refine (IA.out _).mono ?_;rintro e w' ⟨rfl,rfl⟩;go_wp2_with fail
    refine (IB.out _).mono ?_;rintro e w' ⟨rfl,rfl⟩;go_wp2_with fail
    go_ret2;exact⟨Jr0 R.out,B9.out⟩
   have h2:=Decidable.not_not.1 h2;rw [decide_eq_true h2] at IB;by_cases h3:a=b
   ·have g:=Jaq h3
    have R:=Lib.hid (Ja7 HQ.out hx (Jvr (x:=(a,b,s,f)) h3) (by decide));clear HQ hx h3;go_wp2_with fail
    refine (IA.out _).mono ?_;rintro e w' ⟨rfl,rfl⟩;go_wp2_with fail
    refine (IB.out _).mono ?_;rintro e w' ⟨rfl,rfl⟩;go_wp2_with fail
    go_ret2;exact⟨Jr0 R.out,B9.out⟩
   have g:=Jac h3;by_cases h4:¬(1≤s∧s≤14400)
   ·rw [decide_eq_false h4] at IS
    have R:=Lib.hid (Ja7 HQ.out hx (Jrx (x:=(a,b,s,f)) h1 h2 h3 h4) (by decide));clear HQ hx;go_wp2_with fail
    refine (IA.out _).mono ?_;rintro e w' ⟨rfl,rfl⟩;go_wp2_with fail
    refine (IB.out _).mono ?_;rintro e w' ⟨rfl,rfl⟩;go_wp2_with fail
    refine (IS.out _).mono ?_;rintro e w' ⟨rfl,rfl⟩;go_wp2_with fail
    go_ret2;exact⟨Jr0 R.out,B9.out⟩
   have h4:=Decidable.not_not.1 h4;rw [decide_eq_true h4] at IS;have lk:=M9.out.look (a,b,f) hky;by_cases h5:kyP (a,b,s,f)∈(l.take k).map kyP
   ·have lk':=lk.trans (by rw [decide_eq_true (show (a,b,f)∈(l.take k).map kyP from h5)])
    clear lk;have R:=Lib.hid (Ja7 HQ.out hx (Jry (x:=(a,b,s,f)) h1 h2 h3 h4 h5) (by decide));clear HQ hx;go_wp2_with fail
    refine (IA.out _).mono ?_;rintro e w' ⟨rfl,rfl⟩;go_wp2_with fail
    refine (IB.out _).mono ?_;rintro e w' ⟨rfl,rfl⟩;go_wp2_with fail
    refine (IS.out _).mono ?_;rintro e w' ⟨rfl,rfl⟩;go_wp2_with fail
    go_ret2;exact⟨Jr0 R.out,B9.out⟩
   have lk':=lk.trans (by rw [decide_eq_false (show (a,b,f) ∉ (l.take k).map kyP from h5)]);clear lk;obtain⟨w10,hrun,m10,g10⟩:=M9.out.update (a,b,f) hky (by rw [List.length_map,List.length_take];omega);have N:=Lib.hid (Jdz HQ.out hx (J6o (x:=(a,b,s,f)) h1 h2 h3 h4 h5));have M10:Hid (MapP w10 w.heap.size ((l.take (k+1)).map kyP)):=by
    show MapP _ _ _
    rw [Jb0 l k _ hx,List.map_append];exact m10
   have B10:Hid (RowKit.Below w.heap.size w w10):=B9.out.grown g10 B9.out.size (fun j hj=>by cases hj;exact Nat.le_refl _);clear HQ hx h5 m10 g10;go_wp2_with fail
   refine (IA.out _).mono ?_;rintro e w' ⟨rfl,rfl⟩;go_wp2_with fail
   refine (IB.out _).mono ?_;rintro e w' ⟨rfl,rfl⟩;go_wp2_with fail
   refine (IS.out _).mono ?_;rintro e w' ⟨rfl,rfl⟩;go_wp2_with fail
   go_roundw
   case rel=>exact⟨k+1,by go_num,by omega,N,M10,B10⟩
   case measure=>simp [intOf];omega
  ·have R:Hid (q=(0,0)):=Jd0 HQ.out (by omega)
   have d:decide (k<l.length)=false:=by rw [decide_eq_false_iff_not];exact hlt
   clear hlt HQ HM;go_wp2_with fail
   go_ret2;exact⟨Jr0 R.out,HB.out⟩
theorem kchk_any (v:Value) (l:List Fp) (hl:l.length≤1000000) (st:Int) (h64:L64 l) (w:World) (h:LstF w v l):Calls prog 113 #[v,.int .i64 st] w fun e w'=>e=.returned (.tuple #[.int .i64 ((chkP st l).1),.int .i64 ((chkP st l).2)])∧Below w.heap.size w w':=by
 have C:=Lib.hid (J6r v l hl st h64 w h);obtain⟨A,c,rfl,-⟩:=h;by_cases hm:512<l.length
 ·have g:(512:Int)<(l.length:Int):=by omega
  rw [Jvs hm];clear hm C;go_enter func113,ntmps113
  go_wp2_with fail
  go_ret2;exact⟨rfl,RowKit.Below.refl _ _⟩
 ·have g:decide ((512:Int)<(l.length:Int))=false:=decide_eq_false (by omega)
  rw [J0n hm];clear hm;go_enter func113,ntmps113
  go_wp2_with fail
  refine C.out.mono ?_;rintro e w1 ⟨rfl,b1⟩;have B1:=Lib.hid b1;clear b1 C;go_wp2_with fail
  go_ret2;exact⟨rfl,B1.out⟩
open Go.RowKit Go.ChangeShapes Go.WideShapes Go.Deep
end S20
namespace S21
open Go
abbrev Pd:=List UInt8×Int×Int×Int×Int×Int
abbrev Ri:=Int×Int×Int×Int
def okPd (p:Pd):Prop:=(0≤p.2.1∧p.2.1≤1000000)∧(1≤p.2.2.1∧p.2.2.1≤8)∧(1≤p.2.2.2.1∧p.2.2.2.1≤16)∧(0≤p.2.2.2.2.1∧p.2.2.2.2.1≤86400)∧1≤p.2.2.2.2.2∧p.2.2.2.2.2≤255
instance (p:Pd):Decidable (okPd p):=by unfold okPd;infer_instance
def badPd (seen:List (List UInt8)) (x:Pd):Int:=if Jak x.1=false then 12 else if x.1∈seen then 6 else if okPd x then 0 else 2
theorem Jin {seen:List (List UInt8)} {x:Pd} (h:Jak x.1=false):badPd seen x=12:=by unfold badPd;rw [if_pos h]
theorem Jni {seen:List (List UInt8)} {x:Pd} (h:Jak x.1=true) (h2:x.1∈seen):badPd seen x=6:=by unfold badPd;rw [if_neg (by rw [h];simp),if_pos h2]
theorem Jc0 {seen:List (List UInt8)} {x:Pd} (h:Jak x.1=true) (h2:x.1 ∉ seen) (h3:¬okPd x):badPd seen x=2:=by unfold badPd;rw [if_neg (by rw [h];simp),if_neg h2,if_neg h3]
theorem Jr1 {seen:List (List UInt8)} {x:Pd} (h:Jak x.1=true) (h2:x.1 ∉ seen) (h3:okPd x):badPd seen x=0:=by unfold badPd;rw [if_neg (by rw [h];simp),if_neg h2,if_pos h3]
def idPd (x:Pd):List UInt8:=x.1
def okFa (d wi c:Int):Prop:=(0≤d∧d≤1000000)∧(0≤wi∧wi≤86400)∧0≤c∧c≤1000000
instance (d wi c:Int):Decidable (okFa d wi c):=by unfold okFa;infer_instance
def chkPd (d wi c:Int) (l:List Pd):Int×Int:=if ¬okFa d wi c then (-1,2) else if 16<l.length then (0,5) else fbF badPd idPd [] 0 l
theorem Jex {d wi c:Int} {l:List Pd} (h:¬okFa d wi c):chkPd d wi c l=(-1,2):=by unfold chkPd;rw [if_pos h]
theorem Jr2 {d wi c:Int} {l:List Pd} (h:okFa d wi c) (h2:16<l.length):chkPd d wi c l=(0,5):=by unfold chkPd;rw [if_neg (fun k=>k h),if_pos h2]
theorem Jnj {d wi c:Int} {l:List Pd} (h:okFa d wi c) (h2:l.length≤16):chkPd d wi c l=fbF badPd idPd ((l.take 0).map idPd) 0 (l.drop 0):=by unfold chkPd;rw [if_neg (fun k=>k h),if_neg (by omega)];rfl
open Go.RowKit
def pdE (x:Pd):List Value:=[.string (str x.1),.int .i64 x.2.1,.int .i64 x.2.2.1,.int .i64 x.2.2.2.1,.int .i64 x.2.2.2.2.1,.int .i64 x.2.2.2.2.2]
theorem pdE_len (x:Pd):(pdE x).length=6:=rfl
abbrev LstPd:=@LstG Pd pdE
theorem six_at {w:World} {A:Option Addr} {n c:Nat} {l:List Pd} (h:LstPd w (.slice A n c) l) {i:Nat} {id:List UInt8} {p r z t m:Int} (hs:l[i]?=some (id,p,r,z,t,m)) {s:ByteArray} (hst:str id=s) :
  ∃b o,A=some ⟨b,o,none⟩∧b<w.heap.size∧w.cell? ⟨b,o+i*6,none⟩=some (.string s)∧w.cell? ⟨b,o+i*6+1,none⟩=some (.int .i64 p)∧w.cell? ⟨b,o+i*6+2,none⟩=some (.int .i64 r)∧w.cell? ⟨b,o+i*6+3,none⟩=some (.int .i64 z)∧w.cell? ⟨b,o+i*6+4,none⟩=some (.int .i64 t)∧w.cell? ⟨b,o+i*6+5,none⟩=some (.int .i64 m):=by
 subst hst;obtain⟨A',c',hv,_,_,hx⟩:=h;cases hv
 have hi:=(List.getElem?_eq_some_iff.1 hs).1;obtain⟨b,o,rfl,hb,hcell⟩:=hx (by omega);exact⟨b,o,rfl,hb,hcell (i*6) _ (by rw [←Nat.add_zero (i*6),Jbl pdE_len hs 0 (by omega)];rfl),(hcell (i*6+1) _ (by rw [Jbl pdE_len hs 1 (by omega)];rfl):_),(hcell (i*6+2) _ (by rw [Jbl pdE_len hs 2 (by omega)];rfl):_),(hcell (i*6+3) _ (by rw [Jbl pdE_len hs 3 (by omega)];rfl):_),(hcell (i*6+4) _ (by rw [Jbl pdE_len hs 4 (by omega)];rfl):_),(hcell (i*6+5) _ (by rw [Jbl pdE_len hs 5 (by omega)];rfl):_)⟩
abbrev pdV (s:ByteArray) (p r z t m:Int):Value:=.agg #[.string s,.int .i64 p,.int .i64 r,.int .i64 z,.int .i64 t,.int .i64 m]
abbrev boxP (s:ByteArray) (p r z t m:Int):Obj:=.cells #[.string s,.int .i64 p,.int .i64 r,.int .i64 z,.int .i64 t,.int .i64 m] 65 (0,0)
theorem J9x {w:World} {k:Nat} {s:ByteArray} {p r z t m:Int} (h:w.heap[k]?=some (boxP s p r z t m)) :
  w.cell? ⟨k,0,none⟩=some (.string s)∧w.cell? ⟨k,1,none⟩=some (.int .i64 p)∧w.cell? ⟨k,2,none⟩=some (.int .i64 r)∧w.cell? ⟨k,3,none⟩=some (.int .i64 z)∧w.cell? ⟨k,4,none⟩=some (.int .i64 t)∧w.cell? ⟨k,5,none⟩=some (.int .i64 m) :=
 ⟨by rw [cell_of_row _ _ 0 _ _ _ h];rfl,by rw [cell_of_row _ _ 1 _ _ _ h];rfl,by rw [cell_of_row _ _ 2 _ _ _ h];rfl,by rw [cell_of_row _ _ 3 _ _ _ h];rfl,by rw [cell_of_row _ _ 4 _ _ _ h];rfl,by rw [cell_of_row _ _ 5 _ _ _ h];rfl⟩
theorem J3t {w w7:World} {s:ByteArray} {p r z t m:Int} (h:w.alloc (boxP s p r z t m)=w7) :
  Below w.heap.size w w7∧w7.cell? ⟨w.heap.size,0,none⟩=some (.string s)∧w7.cell? ⟨w.heap.size,1,none⟩=some (.int .i64 p)∧w7.cell? ⟨w.heap.size,2,none⟩=some (.int .i64 r)∧w7.cell? ⟨w.heap.size,3,none⟩=some (.int .i64 z)∧w7.cell? ⟨w.heap.size,4,none⟩=some (.int .i64 t)∧w7.cell? ⟨w.heap.size,5,none⟩=some (.int .i64 m)∧w.heap.size<w7.heap.size:=by
 subst h;have c7:=heap_alloc_new w (boxP s p r z t m);obtain⟨h0,h1,h2,h3,h4,h5⟩:=J9x c7;exact⟨(Below.refl _ _).alloc (Nat.le_refl _) _,h0,h1,h2,h3,h4,h5,by simp⟩
abbrev faV (v:Value) (d wi c:Int):Value:=.agg #[v,.int .i64 d,.int .i64 wi,.int .i64 c]
abbrev Jvx (v:Value) (d wi c:Int):Obj:=.cells #[v,.int .i64 d,.int .i64 wi,.int .i64 c] 34 (0,0)
theorem J9y {w:World} {k:Nat} {v:Value} {d wi c:Int} (h:w.heap[k]?=some (Jvx v d wi c)) :
  w.cell? ⟨k,0,none⟩=some v∧w.cell? ⟨k,1,none⟩=some (.int .i64 d)∧w.cell? ⟨k,2,none⟩=some (.int .i64 wi)∧w.cell? ⟨k,3,none⟩=some (.int .i64 c) :=
 ⟨by rw [cell_of_row _ _ 0 _ _ _ h];rfl,by rw [cell_of_row _ _ 1 _ _ _ h];rfl,by rw [cell_of_row _ _ 2 _ _ _ h];rfl,by rw [cell_of_row _ _ 3 _ _ _ h];rfl⟩
theorem J9z {w w7:World} {v:Value} {d wi c:Int} (h:w.alloc (Jvx v d wi c)=w7) :
  Below w.heap.size w w7∧w7.cell? ⟨w.heap.size,0,none⟩=some v∧w7.cell? ⟨w.heap.size,1,none⟩=some (.int .i64 d)∧w7.cell? ⟨w.heap.size,2,none⟩=some (.int .i64 wi)∧w7.cell? ⟨w.heap.size,3,none⟩=some (.int .i64 c)∧w.heap.size<w7.heap.size∧w7.heap[w.heap.size]?=some (Jvx v d wi c):=by
 subst h;have c7:=heap_alloc_new w (Jvx v d wi c);obtain⟨h0,h1,h2,h3⟩:=J9y c7;exact⟨(Below.refl _ _).alloc (Nat.le_refl _) _,h0,h1,h2,h3,by simp,c7⟩
theorem ret_chk {a b c d:Int} (h:a=b) (k:c=d):Ending.returned (.tuple #[.int .i64 a,.int .i64 c])=.returned (.tuple #[.int .i64 b,.int .i64 d]):=by rw [h,k]
theorem valid_all_any (s:ByteArray) (w:World):Calls prog 193 #[.string s] w fun e w'=>e=.returned (.bool (Jak s.data.toList))∧w=w':=by
 by_cases hs:s.size≤1099511627776
 ·exact Je8 s hs w
 have e:=Jdk s (by omega);have he:s.toList.isEmpty=false:=by rw [Jbd,decide_eq_false_iff_not];omega
 have g:(32:Int)<(s.size:Int):=by omega
 clear hs;rw [e];go_enter func193,ntmps193
 go_wp2_with fail
 go_ret;exact⟨rfl,rfl⟩
theorem valid_small {s:ByteArray} {id:List UInt8} (hs:str id=s) (hv:Jak id=true):s.size≤32:=by
 rw [←hs,Jaf];exact valid_le hv
theorem Jnk {seen:List (List UInt8)} {x:Pd} (h:badPd seen x=0):Jak x.1=true:=by
 cases hv:Jak x.1 with
 | true=>rfl
 | false=>rw [Jin hv] at h;cases h
theorem Jhj (n a b:Int) (w:World):Calls prog 278 #[.int .i64 n,.int .i64 a,.int .i64 b] w fun e w'=>e=.returned (.bool (decide (a≤n∧n≤b)))∧w=w':=by
 by_cases h1:a≤n
 ·have R:=Lib.hid (show decide (n≤b)=decide (a≤n∧n≤b) from decide_eq_decide.2 (by omega))
  go_enter func278,ntmps278
  go_wp2_with fail
  go_ret;exact⟨Jaa R.out,rfl⟩
 ·have g:decide (a≤n)=false:=decide_eq_false h1
  have R:=Lib.hid (show false=decide (a≤n∧n≤b) from (decide_eq_false (by omega)).symm);clear h1;go_enter func278,ntmps278
  go_wp2_with fail
  go_ret;exact⟨Jaa R.out,rfl⟩
theorem Jf5 (n:Int) (w:World):Calls prog 204 #[.int .i64 n] w fun e w'=>e=.returned (.bool (decide (0≤n∧n≤1000000)))∧w=w':=by
 have M:=Lib.hid (fun W=>Jhj n 0 1000000 W);generalize decide (0≤n∧n≤1000000)=r at M ⊢;go_enter func204,ntmps204
 go_wp2_with fail
 refine (M.out _).mono ?_;rintro e w' ⟨rfl,rfl⟩;go_wp2_with fail
 go_ret;exact⟨rfl,rfl⟩
theorem Jpw (n:Int) (w:World):Calls prog 205 #[.int .i64 n] w fun e w'=>e=.returned (.bool (decide (0≤n∧n≤86400)))∧w=w':=by
 have M:=Lib.hid (fun W=>Jhj n 0 86400 W);generalize decide (0≤n∧n≤86400)=r at M ⊢;go_enter func205,ntmps205
 go_wp2_with fail
 refine (M.out _).mono ?_;rintro e w' ⟨rfl,rfl⟩;go_wp2_with fail
 go_ret;exact⟨rfl,rfl⟩
theorem Jvy (id:List UInt8) (p r z t m:Int) (s:ByteArray) (hs:str id=s) (b:Nat) (ls:List (List UInt8)) (w:World) (hm:MapB w b ls) :
  Calls prog 206 #[pdV s p r z t m,.map (some b)] w fun e w'=>e=.returned (.int .i64 (badPd ls (id,p,r,z,t,m)))∧Below w.heap.size w w':=by
 have hid:s.data.toList=id:=by rw [←hs]
 obtain⟨w7,hw7⟩:∃W,w.alloc (boxP s p r z t m)=W:=⟨_,rfl⟩;obtain⟨b7,p0,p1,p2,p3,p4,p5,-⟩:=J3t hw7;have V:=Lib.hid (fun W=>valid_all_any s W);rw [hid] at V;have B7:=Lib.hid b7;cases hv:Jak id with
 | false =>
  have R:=Lib.hid (Jin (seen:=ls) (x:=(id,p,r,z,t,m)) hv);rw [hv] at V;clear hv b7 hm hid hs;go_enter func206,ntmps206
  go_wp2_with fail
  refine (V.out _).mono ?_;rintro e w' ⟨rfl,rfl⟩;go_wp2_with fail
  go_ret;exact⟨Jad R.out.symm,B7.out⟩
 | true =>
  have lk:=(hm.below b7).look s id hid (by have:=valid_small hs hv;omega);rw [hv] at V;clear b7 hm hid hs;by_cases hd:id∈ls
  ·have R:=Lib.hid (Jni (x:=(id,p,r,z,t,m)) hv hd)
   rw [decide_eq_true hd] at lk;clear hv hd;go_enter func206,ntmps206
   go_wp2_with fail
   refine (V.out _).mono ?_;rintro e w' ⟨rfl,rfl⟩;go_wp2_with fail
   go_ret;exact⟨Jad R.out.symm,B7.out⟩
  ·rw [decide_eq_false hd] at lk
   have C0:=Lib.hid (fun W=>Jf5 p W);have C1:=Lib.hid (fun W=>Jpw t W);have C2:=Lib.hid (fun W=>Jhj r 1 8 W);have C3:=Lib.hid (fun W=>Jhj z 1 16 W);have C4:=Lib.hid (fun W=>Jhj m 1 255 W);by_cases q0:¬(0≤p∧p≤1000000)
   ·have R:=Lib.hid (Jc0 (x:=(id,p,r,z,t,m)) hv hd (fun h=>q0 (by unfold okPd at h;simp only at h;omega)))
    rw [decide_eq_false q0] at C0;clear hv hd q0;go_enter func206,ntmps206
    go_wp2_with fail
    refine (V.out _).mono ?_;rintro e w' ⟨rfl,rfl⟩;go_wp2_with fail
    refine (C0.out _).mono ?_;rintro e w' ⟨rfl,rfl⟩;go_wp2_with fail
    go_ret;exact⟨Jad R.out.symm,B7.out⟩
   have h0:=Decidable.not_not.1 q0;clear q0;by_cases q1:¬(0≤t∧t≤86400)
   ·have R:=Lib.hid (Jc0 (x:=(id,p,r,z,t,m)) hv hd (fun h=>q1 (by unfold okPd at h;simp only at h;omega)))
    rw [decide_eq_true h0] at C0;rw [decide_eq_false q1] at C1;clear hv hd q1 h0;go_enter func206,ntmps206
    go_wp2_with fail
    refine (V.out _).mono ?_;rintro e w' ⟨rfl,rfl⟩;go_wp2_with fail
    refine (C0.out _).mono ?_;rintro e w' ⟨rfl,rfl⟩;go_wp2_with fail
    refine (C1.out _).mono ?_;rintro e w' ⟨rfl,rfl⟩;go_wp2_with fail
    go_ret;exact⟨Jad R.out.symm,B7.out⟩
   have h1:=Decidable.not_not.1 q1;clear q1;by_cases q2:¬(1≤r∧r≤8)
   ·have R:=Lib.hid (Jc0 (x:=(id,p,r,z,t,m)) hv hd (fun h=>q2 (by unfold okPd at h;simp only at h;omega)))
    rw [decide_eq_true h0] at C0;rw [decide_eq_true h1] at C1;rw [decide_eq_false q2] at C2;clear hv hd q2 h0 h1;go_enter func206,ntmps206
    go_wp2_with fail
    refine (V.out _).mono ?_;rintro e w' ⟨rfl,rfl⟩;go_wp2_with fail
    refine (C0.out _).mono ?_;rintro e w' ⟨rfl,rfl⟩;go_wp2_with fail
    refine (C1.out _).mono ?_;rintro e w' ⟨rfl,rfl⟩;go_wp2_with fail
    refine (C2.out _).mono ?_;rintro e w' ⟨rfl,rfl⟩;go_wp2_with fail
    go_ret;exact⟨Jad R.out.symm,B7.out⟩
   have h2:=Decidable.not_not.1 q2;clear q2;by_cases q3:¬(1≤z∧z≤16)
   ·have R:=Lib.hid (Jc0 (x:=(id,p,r,z,t,m)) hv hd (fun h=>q3 (by unfold okPd at h;simp only at h;omega)))
    rw [decide_eq_true h0] at C0;rw [decide_eq_true h1] at C1;rw [decide_eq_true h2] at C2;rw [decide_eq_false q3] at C3;clear hv hd q3 h0 h1 h2;go_enter func206,ntmps206
    go_wp2_with fail
    refine (V.out _).mono ?_;rintro e w' ⟨rfl,rfl⟩;go_wp2_with fail
    refine (C0.out _).mono ?_;rintro e w' ⟨rfl,rfl⟩;go_wp2_with fail
    refine (C1.out _).mono ?_;rintro e w' ⟨rfl,rfl⟩;go_wp2_with fail
    refine (C2.out _).mono ?_;rintro e w' ⟨rfl,rfl⟩;go_wp2_with fail
    refine (C3.out _).mono ?_;rintro e w' ⟨rfl,rfl⟩;go_wp2_with fail
    go_ret;exact⟨Jad R.out.symm,B7.out⟩
   have h3:=Decidable.not_not.1 q3;clear q3;by_cases q4:¬(1≤m∧m≤255)
   ·have R:=Lib.hid (Jc0 (x:=(id,p,r,z,t,m)) hv hd (fun h=>q4 (by unfold okPd at h;simp only at h;omega)))
    rw [decide_eq_true h0] at C0;rw [decide_eq_true h1] at C1;rw [decide_eq_true h2] at C2;rw [decide_eq_true h3] at C3;rw [decide_eq_false q4] at C4;clear hv hd q4 h0 h1 h2 h3;go_enter func206,ntmps206
    go_wp2_with fail
    refine (V.out _).mono ?_;rintro e w' ⟨rfl,rfl⟩;go_wp2_with fail
    refine (C0.out _).mono ?_;rintro e w' ⟨rfl,rfl⟩;go_wp2_with fail
    refine (C1.out _).mono ?_;rintro e w' ⟨rfl,rfl⟩;go_wp2_with fail
    refine (C2.out _).mono ?_;rintro e w' ⟨rfl,rfl⟩;go_wp2_with fail
    refine (C3.out _).mono ?_;rintro e w' ⟨rfl,rfl⟩;go_wp2_with fail
    refine (C4.out _).mono ?_;rintro e w' ⟨rfl,rfl⟩;go_wp2_with fail
    go_ret;exact⟨Jad R.out.symm,B7.out⟩
   have h4:=Decidable.not_not.1 q4;clear q4;have R:=Lib.hid (Jr1 (x:=(id,p,r,z,t,m)) hv hd (show okPd (id,p,r,z,t,m) from ⟨h0,h2,h3,h1,h4⟩));rw [decide_eq_true h0] at C0;rw [decide_eq_true h1] at C1;rw [decide_eq_true h2] at C2;rw [decide_eq_true h3] at C3;rw [decide_eq_true h4] at C4;clear hv hd h0 h1 h2 h3 h4;go_enter func206,ntmps206
   go_wp2_with fail
   refine (V.out _).mono ?_;rintro e w' ⟨rfl,rfl⟩;go_wp2_with fail
   refine (C0.out _).mono ?_;rintro e w' ⟨rfl,rfl⟩;go_wp2_with fail
   refine (C1.out _).mono ?_;rintro e w' ⟨rfl,rfl⟩;go_wp2_with fail
   refine (C2.out _).mono ?_;rintro e w' ⟨rfl,rfl⟩;go_wp2_with fail
   refine (C3.out _).mono ?_;rintro e w' ⟨rfl,rfl⟩;go_wp2_with fail
   refine (C4.out _).mono ?_;rintro e w' ⟨rfl,rfl⟩;go_wp2_with fail
   go_ret;exact⟨Jad R.out.symm,B7.out⟩
theorem kcheck_any (v:Value) (l:List Pd) (d wi c:Int) (hl:l.length≤9223372036854775807) (w:World) (h:LstPd w v l):Calls prog 115 #[faV v d wi c] w fun e w'=>e=.returned (.tuple #[.int .i64 ((chkPd d wi c l).1),.int .i64 ((chkPd d wi c l).2)])∧Below w.heap.size w w':=by
 obtain⟨w7,hw7⟩:∃W,w.alloc (Jvx v d wi c)=W:=⟨_,rfl⟩;obtain⟨b7,p0,p1,p2,p3,s7,-⟩:=J9z hw7;have H:=Lib.hid (h.below b7);have B7:=Lib.hid b7;obtain⟨A,n,rfl,-,-,-⟩:=h;clear b7;have C0:=Lib.hid (fun W=>Jf5 d W);have C1:=Lib.hid (fun W=>Jpw wi W);have C2:=Lib.hid (fun W=>Jf5 c W);by_cases q0:¬(0≤d∧d≤1000000)
 ·have R:=Lib.hid (Jex (l:=l) (fun h=>q0 (by unfold okFa at h;omega):¬okFa d wi c))
  rw [decide_eq_false q0] at C0;generalize chkPd d wi c l=q at R ⊢;clear q0  s7;go_enter func115,ntmps115
  go_wp2_with fail
  refine (C0.out _).mono ?_;rintro e w' ⟨rfl,rfl⟩;go_wp2_with fail
  go_ret2;exact⟨ret_chk (by rw [R.out]) (by rw [R.out]),B7.out⟩
 have h0:=Decidable.not_not.1 q0;clear q0;by_cases q1:¬(0≤wi∧wi≤86400)
 ·have R:=Lib.hid (Jex (l:=l) (fun h=>q1 (by unfold okFa at h;omega):¬okFa d wi c))
  rw [decide_eq_true h0] at C0;rw [decide_eq_false q1] at C1;generalize chkPd d wi c l=q at R ⊢;clear q1 h0 s7;go_enter func115,ntmps115
  go_wp2_with fail
  refine (C0.out _).mono ?_;rintro e w' ⟨rfl,rfl⟩;go_wp2_with fail
  refine (C1.out _).mono ?_;rintro e w' ⟨rfl,rfl⟩;go_wp2_with fail
  go_ret2;exact⟨ret_chk (by rw [R.out]) (by rw [R.out]),B7.out⟩
 have h1:=Decidable.not_not.1 q1;clear q1;by_cases q2:¬(0≤c∧c≤1000000)
 ·have R:=Lib.hid (Jex (l:=l) (fun h=>q2 (by unfold okFa at h;omega):¬okFa d wi c))
  rw [decide_eq_true h0] at C0;rw [decide_eq_true h1] at C1;rw [decide_eq_false q2] at C2;generalize chkPd d wi c l=q at R ⊢;clear q2 h0 h1 s7;go_enter func115,ntmps115
  go_wp2_with fail
  refine (C0.out _).mono ?_;rintro e w' ⟨rfl,rfl⟩;go_wp2_with fail
  refine (C1.out _).mono ?_;rintro e w' ⟨rfl,rfl⟩;go_wp2_with fail
  refine (C2.out _).mono ?_;rintro e w' ⟨rfl,rfl⟩;go_wp2_with fail
  go_ret2;exact⟨ret_chk (by rw [R.out]) (by rw [R.out]),B7.out⟩
 have h2:=Decidable.not_not.1 q2;clear q2;have ok:okFa d wi c:=⟨h0,h1,h2⟩;rw [decide_eq_true h0] at C0;rw [decide_eq_true h1] at C1;rw [decide_eq_true h2] at C2;clear h0 h1 h2;by_cases h16:16<l.length
 ·have R:=Lib.hid (Jr2 ok h16)
  have g:(16:Int)<(l.length:Int):=by omega
  generalize chkPd d wi c l=q at R ⊢;clear h16 ok s7;go_enter func115,ntmps115
  go_wp2_with fail
  refine (C0.out _).mono ?_;rintro e w' ⟨rfl,rfl⟩;go_wp2_with fail
  refine (C1.out _).mono ?_;rintro e w' ⟨rfl,rfl⟩;go_wp2_with fail
  refine (C2.out _).mono ?_;rintro e w' ⟨rfl,rfl⟩;go_wp2_with fail
  go_ret2;exact⟨ret_chk (by rw [R.out]) (by rw [R.out]),B7.out⟩
 have g:decide ((16:Int)<(l.length:Int))=false:=by rw [decide_eq_false_iff_not];omega
 have ST:=Lib.hid (Jnj ok (show l.length≤16 by omega));have h16':l.length≤16:=by omega
 have hmm:=@run_makeMap prog;obtain⟨q,hq⟩:∃q,chkPd d wi c l=q:=⟨_,rfl⟩;rw [hq];have HQ:=Lib.hid hq;have S7:=Lib.hid s7;have pm:=(((Below.refl w7.heap.size w7).alloc (Nat.le_refl _) (.map #[] 0)).cell (p:=⟨w.heap.size,0,none⟩) s7).trans p0;clear h16 hq ok s7;go_enter func115,ntmps115
 go_wp2_with fail
 refine (C0.out _).mono ?_;rintro e w' ⟨rfl,rfl⟩;go_wp2_with fail
 refine (C1.out _).mono ?_;rintro e w' ⟨rfl,rfl⟩;go_wp2_with fail
 refine (C2.out _).mono ?_;rintro e w' ⟨rfl,rfl⟩;go_wp2_with fail
 go_loopw [32] (fun i wr=>∃k:Nat,i=.int .i64 k∧k≤l.length∧Hid (chkPd d wi c l=fbF badPd idPd ((l.take k).map idPd) k (l.drop k))∧Hid (MapB wr w7.heap.size ((l.take k).map idPd))∧Hid (Below w7.heap.size w7 wr)) (fun i _=>l.length - (intOf i).toNat)
 case atStart=>exact⟨0,rfl,Nat.zero_le _,ST,Lib.hid (MapB.made w7),Lib.hid ((Below.refl _ _).alloc (Nat.le_refl _) _)⟩
 case round =>
  clear g ST hmm;obtain⟨k,rfl,hk,hz,HM,HB⟩:=hrel;clear C0 C1 C2;by_cases hlt:k<l.length
  ·obtain⟨⟨id,p,r,z,t,m⟩,hx⟩:=Jao hlt
   obtain⟨nm,hnm⟩:∃nm,str id=nm:=⟨_,rfl⟩;obtain⟨b,o,rfl,hb,r0,r1,r2,r3,r4,r5⟩:=six_at (H.out.below HB.out) hx hnm;have gk:(k:Int)<(l.length:Int):=by omega
   obtain⟨w8,hw8⟩:∃W,wr.alloc (boxP nm p r z t m)=W:=⟨_,rfl⟩;obtain⟨b8,x0,x1,x2,x3,x4,x5,s8⟩:=J3t hw8;have B8:Hid (Below w7.heap.size w7 w8):=HB.out.trans (b8.mono HB.out.size);have M8:=Lib.hid (HM.out.below b8);have C:=Lib.hid (Jvy id p r z t m nm hnm w7.heap.size ((l.take k).map idPd) w8 M8.out);by_cases he:badPd ((l.take k).map idPd) (id,p,r,z,t,m)=0
   ·have N:=Lib.hid (Jdz hz.out hx he)
    have T:=Lib.hid (Jdy (key:=idPd) hx);have hil:((l.take k).map idPd).length≤16:=by rw [List.length_map,List.length_take];omega
    have hid:Hid (nm.data.toList=id):=by show _=_;rw [←hnm]
    have hsz:=valid_small hnm (Jnk he);rw [he] at C;simp only [idPd] at T;clear hx hz HB HM b8 hnm hb he;go_wp2_with fail
    refine C.out.mono ?_;rintro e w9 ⟨rfl,b9⟩;have q0:=(b9.cell (p:=⟨wr.heap.size,0,none⟩) s8).trans x0;have B9:Hid (Below w7.heap.size w7 w9):=B8.out.trans (b9.mono B8.out.size);have M9:=Lib.hid (M8.out.below b9);clear b9 x0 x1 x2 x3 x4 x5 B8 M8 C;go_wp2_with (at_mapUpdate;refine Je7 _ rfl _ _ _ rfl w7.heap.size ((l.take k).map idPd) rfl M9.out nm id hid.out (by omega) rfl rfl (by omega) ?_;intro w10 m10 g10)
    have M:Hid (MapB w10 w7.heap.size ((l.take (k+1)).map idPd)):=by
     show MapB _ _ _
     rw [T.out];exact m10
    have B:Hid (Below w7.heap.size w7 w10):=B9.out.grown g10 B9.out.size (fun j hj=>by cases hj;exact Nat.le_refl _);clear m10 g10 M9 B9;go_wp2_with fail
    go_roundw
    case rel=>exact⟨k+1,by go_num,by omega,N,M,B⟩
    case measure=>simp [intOf];omega
   ·have R:=Lib.hid (Ja7 hz.out hx rfl he)
    have ne:=Jae he;generalize badPd ((l.take k).map idPd) (id,p,r,z,t,m)=y at C R ne;clear hx hz HB HM b8 hnm hb he;go_wp2_with fail
    refine C.out.mono ?_;rintro e w9 ⟨rfl,b9⟩;have B9:Hid (Below w7.heap.size w7 w9):=B8.out.trans (b9.mono B8.out.size);clear b9 B8 C x0 x1 x2 x3 x4 x5;go_wp2_with fail
    go_ret2;exact⟨ret_chk (by rw [←HQ.out,R.out]) (by rw [←HQ.out,R.out]),B7.out.trans (B9.out.mono B7.out.size)⟩
  ·have R:=Lib.hid (Jd0 hz.out (by omega))
   have d:decide (k<l.length)=false:=by rw [decide_eq_false_iff_not];exact hlt
   clear hz hlt HM;go_wp2_with fail
   go_ret2;exact⟨ret_chk (by rw [←HQ.out,R.out]) (by rw [←HQ.out,R.out]),B7.out.trans (HB.out.mono B7.out.size)⟩
open Go.RowKit Go.ChangeShapes Go.WideShapes Go.Deep
instance:Inhabited Pd:=⟨([],0,0,0,0,0)⟩
instance:Inhabited Ri:=⟨(0,0,0,0)⟩
end S21
section
open Go
structure Tt where
 st:List S13.St
 ro:List Rt
 ca:List S14.Cl
 ex:List S14.Ex
 tr:List Tp
 fr:List Fq
 th:List S19.Th
 gu:List S19.Gt
 pa:List S20.Fp
 pr:List S21.Pd
 di:Int
 wi:Int
 cp:Int
def Jav (T:Tt):Nat→Int×Int
 | 0=>S13.chkT T.st
 | 1=>chkR T.ro
 | 2=>S14.chkC T.ca
 | 3=>S14.chkX T.ca.length T.ex
 | 4=>S17.chkT T.st.length T.ro.length T.ca.length T.tr
 | 5=>chkF (T.tr.map clT) T.fr
 | 6=>S19.chkH (T.tr.map S19.tcT) T.fr T.th
 | 7=>S19.chkU (T.tr.map S19.tcT) T.fr T.st.length T.gu
 | 8=>S20.chkP T.st.length T.pa
 | 9=>S21.chkPd T.di T.wi T.cp T.pr
 | _=>(0,0)
def ttF (P:Nat→Int×Int) (k:Nat):Nat→Int×Int×Int
 | 0=>(0,0,0)
 | n+1=>if (P k).2≠0 then ((k:Int),(P k).1,(P k).2) else ttF P (k+1) n
def ttC (T:Tt):Int×Int×Int:=ttF (Jav T) 0 10
section
variable {P:Nat→Int×Int} {k n:Nat}
theorem Jnl (h:(P k).2≠0):ttF P k (n+1)=((k:Int),(P k).1,(P k).2):=by unfold ttF;rw [if_pos h]
theorem Jnm (h:(P k).2=0):ttF P k (n+1)=ttF P (k+1) n:=by
 show (if (P k).2≠0 then _ else _)=_
 rw [if_neg (fun q=>q h)]
theorem J3u:∀(n k:Nat),(ttF P k n).2.2=0↔∀j,k≤j→j<k+n→(P j).2=0
 | 0,k=>⟨fun _ j h1 h2=>by omega,fun _=>rfl⟩
 | n+1,k=>by
  by_cases h:(P k).2=0
  ·rw [Jnm h,J3u n (k+1)]
   constructor
   ·intro g j h1 h2
    by_cases e:j=k
    ·rw [e];exact h
    ·exact g j (by omega) (by omega)
   ·intro g j h1 h2
    exact g j (by omega) (by omega)
  ·rw [Jnl h]
   exact⟨fun g=>absurd g h,fun g=>absurd (g k (Nat.le_refl _) (by omega)) h⟩
end
theorem Jvz (T:Tt):(ttC T).2.2=0↔∀j,j<10→(Jav T j).2=0:=by
 unfold ttC;rw [J3u];exact⟨fun h j hj=>h j (Nat.zero_le _) (by omega),fun h j _ hj=>h j (by omega)⟩
def ctl (c:UInt8):Bool:=decide (c.toNat<32∨c.toNat=127)
def pln (c:UInt8):Bool:=!(c==44 || c==34 || c==92 || ctl c)
def Jbq (l:List UInt8):Bool:=l.all pln&&!l.isEmpty&&l.head? != some 32&&l.getLast? != some 32
def hexD (n:Nat):UInt8:=UInt8.ofNat (if n<10 then 48+n else 87+n)
def esc (c:UInt8):List UInt8:=if ctl c then [92,120,hexD (c.toNat / 16),hexD (c.toNat % 16)] else if c==34 || c==92 then [92,c] else [c]
def Ja5 (l:List UInt8):List UInt8:=l.flatMap esc
def Jai (l:List UInt8):List UInt8:=if Jbq l then l else 34::(Ja5 l++[34])
def Jll (c:UInt8):Nat:=if 48≤c.toNat∧c.toNat≤57 then c.toNat - 48 else if 97≤c.toNat∧c.toNat≤102 then c.toNat - 87 else 16
theorem Jv0 (c:UInt8):ctl c=true↔c.toNat<32∨c.toNat=127:=by unfold ctl;exact decide_eq_true_iff
theorem Jjo (n:Nat) (h:n<16):(hexD n).toNat=if n<10 then 48+n else 87+n:=by
 unfold hexD;rw [UInt8.toNat_ofNat'];split <;> omega
theorem Jio (n:Nat) (h:n<16):Jll (hexD n)=n:=by
 unfold Jll;rw [Jjo n h];by_cases h1:n<10
 ·rw [if_pos h1,if_pos (by omega)];omega
 ·rw [if_neg h1,if_neg (by omega),if_pos (by omega)];omega
def J3v (a b:Nat):UInt8:=UInt8.ofNat (16*a+b)
def oneL:List UInt8→UInt8×Nat
 | []=>(0,0)
 | c::r =>
  if c≠92 then (c,1)
  else match r with
   | d::q =>
    if d=34∨d=92 then (d,2)
    else match q with
     | x::y::_=>if d=120∧Jll x<16∧Jll y<16 then (J3v (Jll x) (Jll y),4) else (0,0)
     | _=>(0,0)
   | []=>(0,0)
def Jv1:Nat→List UInt8→Option (List UInt8)
 | 0,_=>none
 | _+1,[]=>some []
 | f+1,c::r=>if (oneL (c::r)).2=0 then none else (Jv1 f ((c::r).drop (oneL (c::r)).2)).map ((oneL (c::r)).1::·)
theorem J0q (c:UInt8) (r:List UInt8):oneL (esc c++r)=(c,(esc c).length):=by
 have hc:=c.toNat_lt;unfold esc;split
 ·next hctl =>
  have e1:Jll (hexD (c.toNat / 16))=c.toNat / 16:=Jio _ (by omega);have e2:Jll (hexD (c.toNat % 16))=c.toNat % 16:=Jio _ (by omega);simp [oneL,e1,e2];rw [if_pos ⟨by omega,by omega⟩];unfold J3v;rw [show 16*(c.toNat / 16)+c.toNat % 16=c.toNat by omega,UInt8.ofNat_toNat]
 ·split
  ·next h2 =>
   simp at h2;simp [oneL,h2]
  ·next h2 =>
   simp at h2;simp [oneL,h2]
theorem J3w (c:UInt8):1≤(esc c).length:=by
 unfold esc;split
 ·simp
 ·split <;> simp
theorem Jip:∀(l:List UInt8) (f:Nat),(Ja5 l).length<f→Jv1 f (Ja5 l)=some l
 | [],f+1,_=>rfl
 | c::l,f+1,h=>by
  have hn:=J3w c;have e:Ja5 (c::l)=esc c++Ja5 l:=by simp [Ja5]
  rw [e] at h ⊢;rw [List.length_append] at h;have h1:=J0q c (Ja5 l);cases hx:esc c++Ja5 l with
  | nil=>simp at hx;rw [hx.1] at hn;simp at hn
  | cons d q =>
   rw [Jv1,←hx,h1,if_neg (by omega)];simp only [];rw [List.drop_left' rfl,Jip l f (by omega)];rfl
def unq (s:List UInt8):Option (List UInt8) :=
 if Jbq s then some s
 else if 2≤s.length∧s.head?=some 34∧s.getLast?=some 34 then
  (Jv1 (s.length+1) ((s.drop 1).take (s.length - 2))).bind fun t=>if Jai t=s then some t else none
 else none
theorem Jhk (t:List UInt8):unq (Jai t)=some t:=by
 unfold unq Jai;by_cases h:Jbq t=true
 ·rw [if_pos h,if_pos h]
 ·rw [if_neg h]
  have hp:Jbq (34::(Ja5 t++[34]))=false:=by simp [Jbq,pln]
  rw [hp,if_neg (by decide)];have hl:(34::(Ja5 t++[34])).length=(Ja5 t).length+2:=by simp
  rw [if_pos ⟨by omega,rfl,by rw [←List.cons_append,List.getLast?_concat]⟩,hl];rw [show ((34::(Ja5 t++[34])).drop 1).take ((Ja5 t).length+2 - 2)=Ja5 t by simp];rw [Jip t _ (by omega)];simp [h]
theorem Jlm (s t:List UInt8) (h:unq s=some t):Jai t=s:=by
 unfold unq at h;split at h
 ·next hp =>
  obtain rfl:=Option.some.inj h;unfold Jai;rw [if_pos hp]
 ·split at h
  ·cases hr:Jv1 (s.length+1) ((s.drop 1).take (s.length - 2)) with
   | none=>rw [hr] at h;cases h
   | some u =>
    rw [hr] at h;simp at h;exact h.2 ▸ h.1
  ·cases h
theorem Jv2 (s t:List UInt8):unq s=some t↔Jai t=s:=⟨Jlm s t,fun h=>h ▸ Jhk t⟩
theorem J6s (c:UInt8):(esc c).all (fun b=>!ctl b)=true:=by
 have hc:=c.toNat_lt;have hx:∀n,n<16→ctl (hexD n)=false:=by
  intro n h;have:=Jjo n h;unfold ctl;rw [this];split <;> simp <;> omega
 have h92:ctl 92=false:=rfl;have h120:ctl 120=false:=rfl;unfold esc;split
 ·simp [hx _ (show c.toNat / 16<16 by omega),hx _ (show c.toNat % 16<16 by omega),h92,h120]
 ·next h=>split <;> simp [h,h92]
theorem Jv3 (l:List UInt8):(Jai l).all (fun b=>!ctl b)=true:=by
 unfold Jai;split
 ·next h =>
  unfold Jbq at h;rw [Bool.and_eq_true,Bool.and_eq_true,Bool.and_eq_true] at h;have h:=h.1.1.1;rw [List.all_eq_true] at *;intro c hc;have:=h c hc;unfold pln at this;simp at this;simp [this]
 ·rw [List.all_cons,List.all_append]
  have:(Ja5 l).all (fun b=>!ctl b)=true:=by
   unfold Ja5;rw [List.all_flatMap,List.all_eq_true];exact fun c _=>J6s c
  rw [this];simp [ctl]
end
end Go.Proofs.YtpifdbphmnifdaaGreatDoor
