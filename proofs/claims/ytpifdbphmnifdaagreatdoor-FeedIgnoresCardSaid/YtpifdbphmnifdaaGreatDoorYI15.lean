/-
  Facts of the proof. Condition: each theorem's own.
-/
import Derived.Deep.RegionHeld
import Derived.Laws.Tables
import Derived.Test.YtpifdbphmnifdaaGreatDoorYI14
set_option maxRecDepth 100000
set_option maxHeartbeats 8000000
open Go.Proofs.Tryz
namespace Go.Proofs.YtpifdbphmnifdaaGreatDoor
section
open Go.RowKit
theorem takeH {P:Program} {md:Region.Mode} {ops:Array Oper} {Q:Exit→Act→World→Prop} {S:World→Prop} {i:Nat} {oi:Oper} {v:Value} {fuel:Nat} {listed:Array Bool} {a:Act} {w:World} (d:Nat) (hi:ops[i]?=some oi) (hd:oi.dst=some d)
  (hs:Region.noSelect ops=true) (hf:Region.free md ops listed i=true) (hr:(Region.ready md ops listed).contains i=true)
  (hQ:∀c a w,Q (.panic c) (a.put (some d) v) w→Q (.panic c) a w) (hy:YieldsIf P ops S oi v a) (hS:S w)
  (h:wpAnyH P md ops Q S fuel (listed.setIfInBounds i true) (a.put (some d) v) w):wpAnyH P md ops Q S (fuel+1) listed a w :=
 wpAnyH_take hi hs hf hr (by rw [hd];exact hQ) hy hS (by rw [hd];exact h)
theorem oneH {P:Program} {md:Region.Mode} {ops:Array Oper} {Q:Exit→Act→World→Prop} {S:World→Prop} {i:Nat} {oi:Oper} {fuel:Nat} {listed:Array Bool} {a:Act} {w:World} (hr:Region.ready md ops listed=[i]) (hi:ops[i]?=some oi) (wi:Region.wanted oi (yielded ops a.tmps)=true)
  (h:∀K:Act→World→Prop,Shut (∀a w,S w→(S w→wpAnyH P md ops Q S fuel (listed.setIfInBounds i true) a w)→K a w)→Oper.wp P oi a w K Q):wpAnyH P md ops Q S (fuel+1) listed a w :=
 wpAnyH_ready hr (by simp) (AllReadyH.cons hi (fun K hK=>by rw [if_pos wi];exact h K hK) AllReadyH.nil)
theorem Jsp {P:Program} {md:Region.Mode} {ops:Array Oper} {Q:Exit→Act→World→Prop} {S:World→Prop} {i j:Nat} {oi oj:Oper} {fuel:Nat} {listed:Array Bool} {a:Act} {w:World} (di dj:Nat)
  (hr:Region.ready md ops listed=[i,j]) (hri:Region.ready md ops (listed.setIfInBounds i true)=[j]) (hrj:Region.ready md ops (listed.setIfInBounds j true)=[i]) (hij:i≠j) (hi:ops[i]?=some oi) (hj:ops[j]?=some oj)
  (wi:Region.wanted oi (yielded ops a.tmps)=true) (wj:Region.wanted oj (yielded ops a.tmps)=true) (wi':∀q,Region.wanted oi (yielded ops (a.put (some dj) q).tmps)=true) (wj':∀u,Region.wanted oj (yielded ops (a.put (some di) u).tmps)=true) (hd:di≠dj)
  (R:World→Value→Value→Prop) (Ri Rj:World→Value→Prop)
  (c1:∀K:Act→World→Prop,Shut (∀a' u W',a'=a.put (some di) u→S W'→Ri W' u→K a' W')→Oper.wp P oi a w K Q)
  (c2:∀u W,S W→Ri W u→∀K:Act→World→Prop,Shut (∀a' q W',a'=(a.put (some di) u).put (some dj) q→S W'→R W' u q→K a' W')→Oper.wp P oj (a.put (some di) u) W K Q)
  (c3:∀K:Act→World→Prop,Shut (∀a' q W',a'=a.put (some dj) q→S W'→Rj W' q→K a' W')→Oper.wp P oj a w K Q)
  (c4:∀q W,S W→Rj W q→∀K:Act→World→Prop,Shut (∀a' u W',a'=(a.put (some dj) q).put (some di) u→S W'→R W' u q→K a' W')→Oper.wp P oi (a.put (some dj) q) W K Q)
  (rest:∀u q W,S W→R W u q→wpAnyH P md ops Q S fuel ((listed.setIfInBounds i true).setIfInBounds j true) ((a.put (some di) u).put (some dj) q) W):wpAnyH P md ops Q S (fuel+1+1) listed a w:=by
 refine wpAnyH_ready hr (by simp) (AllReadyH.cons hi (fun K hK=>?_) (AllReadyH.cons hj (fun K hK=>?_) AllReadyH.nil))
 ·rw [if_pos wi]
  refine c1 K (fun a' u W ha hS hR=>hK.out _ _ hS fun _=>?_);subst ha;refine wpAnyH_ready hri (by simp) (AllReadyH.cons hj (fun K' hK'=>?_) AllReadyH.nil);rw [if_pos (wj' u)];exact c2 u W hS hR K' (fun a' q W' ha hS' hR'=>hK'.out _ _ hS' fun _=>by rw [ha];exact rest u q W' hS' hR')
 ·rw [if_pos wj]
  refine c3 K (fun a' q W ha hS hR=>hK.out _ _ hS fun _=>?_);subst ha;refine wpAnyH_ready hrj (by simp) (AllReadyH.cons hi (fun K' hK'=>?_) AllReadyH.nil);rw [if_pos (wi' q)];refine c4 q W hS hR K' (fun a' u W' ha hS' hR'=>hK'.out _ _ hS' fun _=>?_);rw [ha,Act.put_comm a q u (fun d h e=>hd (by cases h;cases e;rfl)),Array.setIfInBounds_comm _ _ (Ne.symm hij)];exact rest u q W' hS' hR'
abbrev Sk:=List Nat×Option Nat×List Nat
def skO (md:Region.Mode) (ops:Array Oper) (o:Oper):Sk:=((o.after.toList.filter (Region.binds md)).map (·.on),o.dst,o.looksAt ops)
def sk (md:Region.Mode) (ops:Array Oper):List Sk:=ops.toList.map (skO md ops)
def Jbb (T:List Sk) (l:List Bool):List Nat:=(List.range T.length).filter fun i=>!l.getD i true&&((T[i]?).map fun t=>t.1.all fun e=>l.getD e false).getD false
def Qal (x y:Sk):Bool:=(match x.2.1 with | some d=>!y.2.2.contains d&&y.2.1 != some d | none=>true)&&(match y.2.1 with | some d=>!x.2.2.contains d | none=>true)
def Jmd (T:List Sk) (l:List Bool) (i:Nat):Bool :=
 match T[i]? with
 | none=>false
 | some ti=>(List.range T.length).all fun j=>j==i || l.getD j true || match T[j]? with
   | some tj=>tj.1.contains i || Qal ti tj
   | none=>true
theorem J1l (md:Region.Mode) (ops:Array Oper) (i:Nat):(sk md ops)[i]?=(ops[i]?).map (skO md ops):=by
 unfold sk;rw [List.getElem?_map,Array.getElem?_toList]
theorem J35 (md:Region.Mode) (ops:Array Oper):(sk md ops).length=ops.size:=by unfold sk;rw [List.length_map,Array.length_toList]
theorem Jhu (l:List Bool) (i:Nat) (b:Bool):l.toArray.getD i b=l.getD i b:=by simp [Array.getD_eq_getD_getElem?,List.getD_eq_getElem?_getD]
theorem Jcg (md:Region.Mode) (ops:Array Oper) (l:List Bool):Region.ready md ops l.toArray=Jbb (sk md ops) l:=by
 unfold Region.ready Jbb;rw [J35];congr 1
 funext i
 rw [J1l,Jhu];congr 1
 cases ops[i]? with
 | none=>rfl
 | some o =>
  show (o.after.all fun e=>!Region.binds md e || l.toArray.getD e.on false)=((o.after.toList.filter (Region.binds md)).map (·.on)).all fun e=>l.getD e false
  rw [Bool.eq_iff_iff,Array.all_eq_true_iff_forall_mem,List.all_eq_true];simp only [List.mem_map,List.mem_filter,Array.mem_toList_iff,Bool.or_eq_true,Bool.not_eq_true',Jhu];constructor
  ·rintro h _ ⟨e,⟨he,hb⟩,rfl⟩
   rcases h e he with h1 | h1
   ·rw [hb] at h1;cases h1
   ·exact h1
  ·intro h e he
   cases hb:Region.binds md e with
   | false=>exact .inl rfl
   | true=>exact .inr (h _ ⟨e,⟨he,hb⟩,rfl⟩)
theorem Jw5 {md:Region.Mode} {ops:Array Oper} {l:List Bool} {i:Nat} (h:Jmd (sk md ops) l i=true):Region.free md ops l.toArray i=true:=by
 unfold Jmd at h;rw [J1l,J35] at h;unfold Region.free;cases hi:ops[i]? with
 | none=>rw [hi] at h;exact h
 | some oi =>
  rw [hi] at h;simp only [Option.map_some] at h;simp only;rw [List.all_eq_true] at h ⊢;intro j hj;have h1:=h j hj;rw [Jhu];rw [J1l] at h1;cases hoj:ops[j]? with
  | none=>simp
  | some oj =>
   rw [hoj] at h1;simp only [Option.map_some] at h1;rw [Bool.or_eq_true] at h1 ⊢;rcases h1 with h1 | h1
   ·exact .inl h1
   ·right
    simp only;rw [Bool.or_eq_true] at h1 ⊢;rcases h1 with h1 | h1
    ·left
     unfold skO at h1;rw [List.contains_iff_mem] at h1;obtain⟨e,he,hon⟩:=List.mem_map.1 h1;obtain⟨he1,he2⟩:=List.mem_filter.1 he;rw [Array.any_eq_true'];exact⟨e,Array.mem_toList_iff.1 he1,by rw [he2,hon];simp⟩
    ·right
     exact h1
def Jba (N m:Nat):List Bool:=(List.range N).map fun j=>m.testBit j
def wpT (P:Program) (md:Region.Mode) (ops:Array Oper) (Q:Exit→Act→World→Prop) (S:World→Prop) (T:List Sk) (fuel:Nat) (l:List Bool) (a:Act) (w:World):Prop:=sk md ops=T→Region.noSelect ops=true→wpAnyH P md ops Q S fuel l.toArray a w
section
variable {P:Program} {md:Region.Mode} {ops:Array Oper} {Q:Exit→Act→World→Prop} {S:World→Prop} {T:List Sk} {fuel:Nat} {l:List Bool} {a:Act} {w:World}
theorem Ja6 {id:Nat} (T:List Sk) (N:Nat) (hT:sk .any ops=T) (hsel:Region.noSelect ops=true) (hN:ops.size=N) (hm:P.follows .mixedOrders=true) (l:List Bool) (hl:List.replicate N false=l) (hS:S w.drew) (h:S w.drew→wpT P .any ops Q S T N l a w.drew):(Code.region id ops true).wp P Q a w :=
 wp_region_held_drew hm hS fun h0=>by
  have:=h h0 hT hsel;subst hN;subst hl;rw [List.toArray_replicate] at this;exact this
theorem Jch (l:List Bool) (i:Nat):l.toArray.setIfInBounds i true=(l.set i true).toArray:=by rw [List.setIfInBounds_toArray]
theorem takeT {i:Nat} {oi:Oper} {v:Value} {a':Act} (d:Nat) (l':List Bool) (hl:l.set i true=l') (hi:ops[i]?=some oi) (hd:oi.dst=some d) (hc:(Jmd T l i&&(Jbb T l).contains i)=true)
  (hQ:∀c a w,Q (.panic c) (a.put (some d) v) w→Q (.panic c) a w) (hy:YieldsIf P ops S oi v a) (hS:S w) (ha:a.put (some d) v=a')
  (h:wpT P md ops Q S T fuel l' a' w):wpT P md ops Q S T (fuel+1) l a w:=fun h1 h2=>by
 rw [Bool.and_eq_true] at hc;subst ha;subst hl;refine takeH d hi hd h2 (Jw5 (by rw [h1];exact hc.1)) (by rw [Jcg,h1];exact hc.2) hQ hy hS ?_;rw [Jch];exact h h1 h2
theorem oneT {i:Nat} {oi:Oper} (l':List Bool) (hl:l.set i true=l') (hr:Jbb T l=[i]) (hi:ops[i]?=some oi) (wi:Region.wanted oi (yielded ops a.tmps)=true)
  (h:∀K:Act→World→Prop,Shut (∀a w,S w→(S w→wpT P md ops Q S T fuel l' a w)→K a w)→Oper.wp P oi a w K Q):wpT P md ops Q S T (fuel+1) l a w:=fun h1 h2=>by
 subst hl;refine oneH (by rw [Jcg,h1];exact hr) hi wi fun K hK=>h K fun a w hS hW=>hK.out a w hS fun hS=>?_
 rw [Jch];exact hW hS h1 h2
theorem twoT {i j:Nat} {oi oj:Oper} (di dj:Nat) (l':List Bool) (hl:(l.set i true).set j true=l') (hr:Jbb T l=[i,j]) (hri:Jbb T (l.set i true)=[j]) (hrj:Jbb T (l.set j true)=[i]) (hij:i≠j) (hi:ops[i]?=some oi) (hj:ops[j]?=some oj)
  (wi:Region.wanted oi (yielded ops a.tmps)=true) (wj:Region.wanted oj (yielded ops a.tmps)=true) (wi':∀q,Region.wanted oi (yielded ops (a.put (some dj) q).tmps)=true) (wj':∀u,Region.wanted oj (yielded ops (a.put (some di) u).tmps)=true) (hd:di≠dj)
  (R:World→Value→Value→Prop) (Ri Rj:World→Value→Prop)
  (c1:∀K:Act→World→Prop,Shut (∀a' u W',a'=a.put (some di) u→S W'→Ri W' u→K a' W')→Oper.wp P oi a w K Q)
  (c2:∀u W,S W→Ri W u→∀K:Act→World→Prop,Shut (∀a' q W',a'=(a.put (some di) u).put (some dj) q→S W'→R W' u q→K a' W')→Oper.wp P oj (a.put (some di) u) W K Q)
  (c3:∀K:Act→World→Prop,Shut (∀a' q W',a'=a.put (some dj) q→S W'→Rj W' q→K a' W')→Oper.wp P oj a w K Q)
  (c4:∀q W,S W→Rj W q→∀K:Act→World→Prop,Shut (∀a' u W',a'=(a.put (some dj) q).put (some di) u→S W'→R W' u q→K a' W')→Oper.wp P oi (a.put (some dj) q) W K Q)
  (rest:∀u q W,S W→R W u q→wpT P md ops Q S T fuel l' ((a.put (some di) u).put (some dj) q) W):wpT P md ops Q S T (fuel+1+1) l a w:=fun h1 h2=>by
 subst hl;refine Jsp di dj (by rw [Jcg,h1];exact hr) (by rw [Jch,Jcg,h1];exact hri) (by rw [Jch,Jcg,h1];exact hrj) hij hi hj wi wj wi' wj' hd R Ri Rj c1 c2 c3 c4 fun u q W hS hR=>?_
 rw [Jch,Jch];exact rest u q W hS hR h1 h2
theorem Jw6 {oi:Oper} {f:FuncId} {vals:Array Value} {K:Act→World→Prop} {R:Value→World→Prop} (d:Nat) (hd:oi.dst=some d) (hrun:(execOp a.eval oi).run P w=.ok (.enter f vals) w)
  (C:Calls P f vals w fun e w'=>∃u,e=.returned u∧R u w') (h:∀u w',R u w'→K (a.put (some d) u) w'):Oper.wp P oi a w K Q:=by
 unfold Oper.wp;rw [hrun,Oper.upon_enter];refine C.mono fun e w' hh=>?_
 obtain⟨u,rfl,hR⟩:=hh;rw [hd];exact h u w' hR
theorem Jgr {oi:Oper} {v:Value} {w':World} {K:Act→World→Prop} (d:Nat) (hd:oi.dst=some d) (hrun:(execOp a.eval oi).run P w=.ok (.value v) w') (h:K (a.put (some d) v) w'):Oper.wp P oi a w K Q:=by
 unfold Oper.wp;rw [hrun,Oper.upon_value,hd];exact h
theorem Jbr {i:Nat} {oi:Oper} {f:FuncId} {vals:Array Value} {R:Value→World→Prop} (d:Nat) (l':List Bool) (hl:l.set i true=l') (hr:Jbb T l=[i]) (hi:ops[i]?=some oi) (hd:oi.dst=some d) (wi:Region.wanted oi (yielded ops a.tmps)=true)
  (hrun:(execOp a.eval oi).run P w=.ok (.enter f vals) w) (C:Calls P f vals w fun e w'=>∃u,e=.returned u∧R u w') (h:∀u w',R u w'→S w'∧wpT P md ops Q S T fuel l' (a.put (some d) u) w'):wpT P md ops Q S T (fuel+1) l a w :=
 oneT l' hl hr hi wi fun _ hK=>Jw6 d hd hrun C fun u w' hR=>hK.out _ _ (h u w' hR).1 fun _=>(h u w' hR).2
theorem Jdh {i:Nat} {oi:Oper} {v:Value} {w':World} {a':Act} (d:Nat) (l':List Bool) (hl:l.set i true=l') (hr:Jbb T l=[i]) (hi:ops[i]?=some oi) (hd:oi.dst=some d) (wi:Region.wanted oi (yielded ops a.tmps)=true)
  (hrun:(execOp a.eval oi).run P w=.ok (.value v) w') (hS:S w') (ha:a.put (some d) v=a') (h:wpT P md ops Q S T fuel l' a' w'):wpT P md ops Q S T (fuel+1) l a w :=
 oneT l' hl hr hi wi fun _ hK=>Jgr d hd hrun (hK.out _ _ hS fun _=>by rw [ha];exact h)
theorem Jb2 (hr:Jbb T l=[]) (h:Q .normal a w):wpT P md ops Q S T fuel l a w:=fun h1 _=>wpAnyH_done (by rw [Jcg,h1];exact hr) h fuel
end
inductive Takes (P:Program) (ops:Array Oper) (S:World→Prop):Act→List (Nat×Nat×Value)→Act→Prop
 | nil {a:Act}:Takes P ops S a [] a
 | cons {a a':Act} {i d:Nat} {v:Value} {r:List (Nat×Nat×Value)} {oi:Oper} (hi:ops[i]?=some oi) (hd:oi.dst=some d) (hy:YieldsIf P ops S oi v a) (h:Takes P ops S (a.put (some d) v) r a'):Takes P ops S a ((i,d,v)::r) a'
theorem Takes.p {P:Program} {ops:Array Oper} {S:World→Prop} {a a':Act} {i d:Nat} {v:Value} {r:List (Nat×Nat×Value)} {oi:Oper} (hi:ops[i]?=some oi) (hd:oi.dst=some d) (hw:Region.wanted oi (yielded ops a.tmps)=true) (hv:∀w,(execOp a.eval oi).run P w=.ok (.value v) w) (h:Takes P ops S (a.put (some d) v) r a'):Takes P ops S a ((i,d,v)::r) a':=.cons hi hd (.inl ⟨hw,fun w _=>hv w⟩) h
theorem Takes.q {P:Program} {ops:Array Oper} {S:World→Prop} {a a':Act} {i d:Nat} {v:Value} {r:List (Nat×Nat×Value)} {oi:Oper} (h:Takes P ops S (a.put (some d) v) r a') (hi:ops[i]?=some oi:=by rfl) (hd:oi.dst=some d:=by rfl) (hw:Region.wanted oi (yielded ops a.tmps)=true:=by rfl) (hv:∀w,(execOp a.eval oi).run P w=.ok (.value v) w:=by intro;kernel_rfl):Takes P ops S a ((i,d,v)::r) a':=.p hi hd hw hv h
def Jme (T:List Sk):List Bool→List Nat→Bool
 | _,[]=>true
 | l,i::r=>Jmd T l i&&(Jbb T l).contains i&&Jme T (l.set i true) r
def Jsq:List Bool→List Nat→List Bool
 | l,[]=>l
 | l,i::r=>Jsq (l.set i true) r
section
variable {P:Program} {md:Region.Mode} {ops:Array Oper} {Q:Exit→Act→World→Prop} {S:World→Prop} {T:List Sk} {fuel:Nat}
theorem Ja3 {L:List (Nat×Nat×Value)} {a a':Act} (hT:Takes P ops S a L a'):∀{l l':List Bool} {w:World} (I:List Nat) (_:L.map (fun x=>x.1)=I) (_:Jsq l I=l') (_:Jme T l I=true) (_:∀c a d v w,Q (.panic c) (Act.put a (some d) v) w→Q (.panic c) a w) (_:S w) (_:wpT P md ops Q S T fuel l' a' w),wpT P md ops Q S T (fuel+I.length) l a w:=by
 induction hT with
 | nil =>
  intro l l' w I hI hl hb hQ hS h;subst hI;subst hl;exact h
 | @cons a a' i d v r oi hi hd hy hr ih =>
  intro l l' w I hI hl hb hQ hS h;subst hI;have hb':(Jmd T l i&&(Jbb T l).contains i)=true∧Jme T (l.set i true) (r.map fun x=>x.1)=true:=by
   have e:Jme T l (i::r.map fun x=>x.1)=(Jmd T l i&&(Jbb T l).contains i&&Jme T (l.set i true) (r.map fun x=>x.1)):=rfl;simp only [List.map_cons] at hb;rw [e,Bool.and_eq_true] at hb;exact hb
  simp only [List.map_cons] at hl ⊢;have k:=ih _ rfl hl hb'.2 hQ hS h;rw [List.length_cons,←Nat.add_assoc];exact takeT d _ rfl hi hd hb'.1 (fun c a w=>hQ c a d v w) hy hS rfl k
end
inductive Runs (P:Program) (ops:Array Oper) (S:World→Prop) (dj:Nat) (v:World→Value) (m:World→World) (L:Value→World→Prop):(World→Prop)→Act→List Nat→Act→(World→Prop)→Prop
 | nil {G:World→Prop} {a:Act} (k:∀W,G W→G (m W)∧L (v W) (m W)) (s:∀W,G W→S W):Runs P ops S dj v m L G a [] a G
 | cons {G G1 G':World→Prop} {a a':Act} {i:Nat} {r:List Nat} {o:Oper} (d:Nat) {f:FuncId} {x:Array Value} (u:Value) (hi:ops[i]?=some o) (hd:o.dst=some d) (hne:dj≠d) (w:∀b:Act,Region.wanted o (yielded ops b.tmps)=true)
   (r0:∀W,(execOp a.eval o).run P W=.ok (.enter f x) W) (r1:∀q W,(execOp (a.put (some dj) q).eval o).run P W=.ok (.enter f x) W)
   (c:∀W,G W→Calls P f x W fun e W'=>e=.returned u∧G1 W'∧∀q,L q W→L q W') (k:∀W,G W→G (m W)∧L (v W) (m W)) (s:∀W,G W→S W)
   (h:Runs P ops S dj v m L G1 (a.put (some d) u) r a' G'):Runs P ops S dj v m L G a (i::r) a' G'
 | step {G G':World→Prop} {a a':Act} {i:Nat} {r:List Nat} {o:Oper} (d:Nat) (u:Value) (hi:ops[i]?=some o) (hd:o.dst=some d) (hne:dj≠d) (w:∀b:Act,Region.wanted o (yielded ops b.tmps)=true)
   (r0:∀W,(execOp a.eval o).run P W=.ok (.value u) W) (r1:∀q W,(execOp (a.put (some dj) q).eval o).run P W=.ok (.value u) W) (k:∀W,G W→G (m W)∧L (v W) (m W)) (s:∀W,G W→S W)
   (h:Runs P ops S dj v m L G (a.put (some d) u) r a' G'):Runs P ops S dj v m L G a (i::r) a' G'
def Jn4 (T:List Sk) (j:Nat):List Bool→List Nat→Bool
 | l,[]=>Jbb T l==[j]
 | l,i::r=>(Jbb T l==[i,j])&&(Jbb T (l.set j true)==[i])&&(i != j)&&Jn4 T j (l.set i true) r
section
variable {P:Program} {md:Region.Mode} {ops:Array Oper} {Q:Exit→Act→World→Prop} {S:World→Prop} {T:List Sk} {fuel:Nat}
theorem altT {i j:Nat} {oi oj:Oper} {l:List Bool} {a:Act} {w:World} (hr:Jbb T l=[i,j]) (hi:ops[i]?=some oi) (hj:ops[j]?=some oj) (wi:Region.wanted oi (yielded ops a.tmps)=true) (wj:Region.wanted oj (yielded ops a.tmps)=true)
  (Hi:∀K:Act→World→Prop,Shut (∀a w,S w→wpT P md ops Q S T fuel (l.set i true) a w→K a w)→Oper.wp P oi a w K Q)
  (Hj:∀K:Act→World→Prop,Shut (∀a w,S w→wpT P md ops Q S T fuel (l.set j true) a w→K a w)→Oper.wp P oj a w K Q):wpT P md ops Q S T (fuel+1) l a w:=fun h1 h2=>by
 have hrr:Region.ready md ops l.toArray=[i,j]:=by rw [Jcg,h1];exact hr
 refine wpAnyH_ready hrr (by simp) (AllReadyH.cons hi (fun K hK=>?_) (AllReadyH.cons hj (fun K hK=>?_) AllReadyH.nil))
 ·rw [if_pos wi]
  exact Hi K (fun a w hS hW=>hK.out _ _ hS fun _=>by rw [Jch];exact hW h1 h2)
 ·rw [if_pos wj]
  exact Hj K (fun a w hS hW=>hK.out _ _ hS fun _=>by rw [Jch];exact hW h1 h2)
variable {j dj:Nat} {oj:Oper} {v:World→Value} {m:World→World} {L:Value→World→Prop}
theorem Runs.world {G G':World→Prop} {a a':Act} {I:List Nat} (h:Runs P ops S dj v m L G a I a' G') {w:World} (hG:G w):S w:=by
 cases h with
 | nil k s=>exact s _ hG
 | cons d u hi hd hne tw r0 r1 c k s h=>exact s _ hG
 | step d u hi hd hne tw r0 r1 k s h=>exact s _ hG
theorem Jmf {G G':World→Prop} {a a':Act} {I:List Nat} (h:Runs P ops S dj v m L G a I a' G'):∀{l:List Bool} {w:World} (q:Value) (_:Jn4 T j l I=true) (_:G w) (_:L q w) (_:∀q W,G' W→L q W→wpT P md ops Q S T fuel ((Jsq l I).set j true) (a'.put (some dj) q) W),wpT P md ops Q S T (fuel+I.length) (l.set j true) (a.put (some dj) q) w:=by
 induction h with
 | nil k s=>intro l w q _ hG hL hr;exact hr q w hG hL
 | @cons G G1 G' a a' i r o d f x u hi hd hne tw r0 r1 c k s hh ih =>
  intro l w q hb hG hL hr;unfold Jn4 at hb;rw [Bool.and_eq_true,Bool.and_eq_true,Bool.and_eq_true] at hb;obtain⟨⟨⟨b0,b1⟩,b2⟩,b3⟩:=hb;rw [List.length_cons,←Nat.add_assoc];refine oneT _ rfl (eq_of_beq b1) hi (tw _) fun K hK=>?_
  refine Jw6 (R:=fun u' W'=>u'=u∧G1 W'∧∀q,L q w→L q W') d hd (r1 q w) ((c w hG).mono fun e w' h=>⟨_,h.1,rfl,h.2⟩) fun u' w' hR=>?_
  obtain⟨rfl,hG1,hk⟩:=hR;refine hK.out _ _ (hh.world hG1) fun _=>?_
  rw [Act.put_comm a q u' (fun d' h e=>hne (by cases h;cases e;rfl)),List.set_comm _ _ (Ne.symm (by simpa using b2))];exact ih q b3 hG1 (hk q hL) hr
 | @step G G' a a' i r o d u hi hd hne tw r0 r1 k s hh ih =>
  intro l w q hb hG hL hr;unfold Jn4 at hb;rw [Bool.and_eq_true,Bool.and_eq_true,Bool.and_eq_true] at hb;obtain⟨⟨⟨b0,b1⟩,b2⟩,b3⟩:=hb;rw [List.length_cons,←Nat.add_assoc];refine oneT _ rfl (eq_of_beq b1) hi (tw _) fun K hK=>Jgr d hd (r1 q w) (hK.out _ _ (s _ hG) fun _=>?_)
  rw [Act.put_comm a q u (fun d' h e=>hne (by cases h;cases e;rfl)),List.set_comm _ _ (Ne.symm (by simpa using b2))];exact ih q b3 hG hL hr
theorem Jhv {G G':World→Prop} {a a':Act} {I:List Nat} (h:Runs P ops S dj v m L G a I a' G') (hj:ops[j]?=some oj) (ej:oj.dst=some dj) (tj:∀b:Act,Region.wanted oj (yielded ops b.tmps)=true) (rj:∀(b:Act) (W:World),(execOp b.eval oj).run P W=.ok (.value (v W)) (m W)) :
  ∀{l l':List Bool} {w:World} (_:(Jsq l I).set j true=l') (_:Jn4 T j l I=true) (_:G w) (_:∀q W,G' W→L q W→wpT P md ops Q S T fuel l' (a'.put (some dj) q) W),wpT P md ops Q S T (fuel+(I.length+1)) l a w:=by
 induction h with
 | nil k s =>
  intro l l' w hl hb hG hr;refine oneT _ hl (eq_of_beq hb) hj (tj _) fun K hK=>Jgr dj ej (rj _ w) ?_
  exact hK.out _ _ (s _ (k _ hG).1) fun _=>hr _ _ (k _ hG).1 (k _ hG).2
 | @cons G G1 G' a a' i r o d f x u hi hd hne tw r0 r1 c k s hh ih =>
  intro l l' w hl hb hG hr;have hb0:=hb;unfold Jn4 at hb;rw [Bool.and_eq_true,Bool.and_eq_true,Bool.and_eq_true] at hb;obtain⟨⟨⟨b0,b1⟩,b2⟩,b3⟩:=hb;subst hl;have key:wpT P md ops Q S T (fuel+(r.length+1)+1) l a w:=by
   refine altT (eq_of_beq b0) hi hj (tw _) (tj _) (fun K hK=>?_) (fun K hK=>?_)
   ·refine Jw6 (R:=fun u' W'=>u'=u∧G1 W'∧∀q,L q w→L q W') d hd (r0 w) ((c w hG).mono fun e w' h=>⟨_,h.1,rfl,h.2⟩) fun u' w' hR=>?_
    obtain⟨rfl,hG1,-⟩:=hR;exact hK.out _ _ (hh.world hG1) (ih rfl b3 hG1 hr)
   ·refine Jgr dj ej (rj a w) (hK.out _ _ (s _ (k _ hG).1) ?_)
    exact Jmf (I:=i::r) (Runs.cons d u hi hd hne tw r0 r1 c k s hh) _ hb0 (k _ hG).1 (k _ hG).2 hr
  exact key
 | @step G G' a a' i r o d u hi hd hne tw r0 r1 k s hh ih =>
  intro l l' w hl hb hG hr;have hb0:=hb;unfold Jn4 at hb;rw [Bool.and_eq_true,Bool.and_eq_true,Bool.and_eq_true] at hb;obtain⟨⟨⟨b0,b1⟩,b2⟩,b3⟩:=hb;subst hl;have key:wpT P md ops Q S T (fuel+(r.length+1)+1) l a w:=by
   refine altT (eq_of_beq b0) hi hj (tw _) (tj _) (fun K hK=>?_) (fun K hK=>?_)
   ·exact Jgr d hd (r0 w) (hK.out _ _ (s _ hG) (ih rfl b3 hG hr))
   ·refine Jgr dj ej (rj a w) (hK.out _ _ (s _ (k _ hG).1) ?_)
    exact Jmf (I:=i::r) (Runs.step d u hi hd hne tw r0 r1 k s hh) _ hb0 (k _ hG).1 (k _ hG).2 hr
  exact key
end
section
variable {P:Program} {ops:Array Oper} {Q:Exit→Act→World→Prop} {md:Region.Mode} {S:World→Prop} {z:Nat}
def Ji2 (P:Program) (md:Region.Mode) (ops:Array Oper) (Q:Exit→Act→World→Prop) (S:World→Prop) (z:Nat):Nat→Array Bool→Act→World→Prop
 | 0,listed,a,w=>Region.ready md ops listed=[]∧Q .normal a w
 | fuel+1,listed,a,w =>
  (Region.ready md ops listed=[]→Q .normal a w) ∧
  ∀i∈Region.ready md ops listed,wpOp P ops Q i (fun a' w'=>(i≠z→S w')∧Ji2 P md ops Q S z fuel (listed.setIfInBounds i true) a' w') a w
theorem Ji3:∀(fuel:Nat) (listed:Array Bool) (a:Act) (w:World),Ji2 P md ops Q S z fuel listed a w→wpAny P md ops Q fuel listed a w
 | 0,_,_,_,h=>h
 | fuel+1,_,_,_,h=>⟨h.1,fun i hi=>wpOp_mono (fun a' w' h'=>Ji3 fuel _ a' w' h'.2) (h.2 i hi)⟩
theorem Jmg {i:Nat} {oi oz:Oper} {v:Value} (hi:ops[i]?=some oi) (hsel:∀(j:Nat) (o:Oper) cs b,ops[j]?=some o→o.op≠.select cs b)
  (hQ:∀c a w,Q (.panic c) (a.put oi.dst v) w→Q (.panic c) a w) (hz:ops[z]?=some oz) (hw:∃e∈oz.after,Region.binds md e=true∧e.on=i) (hne:i≠z) :
  ∀(fuel:Nat) (listed:Array Bool) (a:Act) (w:World),
   (∀j oj,ops[j]?=some oj→j≠i→listed.getD j true=false→(∀e∈oj.after,Region.binds md e=true→e.on≠i)→oi.apart ops oj=true) →
   i∈Region.ready md ops listed→YieldsIf P ops S oi v a→S w →
   Ji2 P md ops Q S z fuel (listed.setIfInBounds i true) (a.put oi.dst v) w→Ji2 P md ops Q S z (fuel+1) listed a w:=by
 intro fuel;induction fuel with
 | zero =>
  intro listed a w _ hr hy hS H;refine⟨fun h=>(by rw [h] at hr;cases hr),fun j hj=>?_⟩;by_cases hji:j=i
  ·subst hji;exact hy.wpOp hi hS ⟨fun _=>hS,H⟩
  ·have:=ready_mono hj hji
   rw [H.1] at this;cases this
 | succ fuel ih =>
  intro listed a w hfree hr hy hS H;refine⟨fun h=>(by rw [h] at hr;cases hr),fun j hj=>?_⟩;by_cases hji:j=i
  ·subst hji;exact hy.wpOp hi hS ⟨fun _=>hS,H⟩
  ·have h1:=H.2 j (ready_mono hj hji)
   obtain⟨hjun,oj,hoj,hall⟩:=mem_ready.1 hj;have hnot:∀e∈oj.after,Region.binds md e=true→e.on≠i:=fun e he hb heq=>by
    have h1:=hall e he hb;have h0:=(mem_ready.1 hr).1;rw [heq] at h1;rcases Nat.lt_or_ge i listed.size with h' | h'
    ·simp [h'] at h0 h1;rw [h0] at h1;cases h1
    ·simp [Array.getElem?_eq_none h'] at h1
   have hjz:j≠z:=fun e=>by
    subst e;rw [hz] at hoj;cases hoj
    obtain⟨e,he,hb,heq⟩:=hw;exact hnot e he hb heq
   have h2:=wpOp_putIf hoj (hfree j oj hoj hji hjun hnot) (fun cs b=>hsel i oi cs b hi) (fun cs b=>hsel j oj cs b hoj) hQ hy h1;have hfree':∀k ok,ops[k]?=some ok→k≠i→(listed.setIfInBounds j true).getD k true=false →
     (∀e∈ok.after,Region.binds md e=true→e.on≠i)→oi.apart ops ok=true:=fun k ok hk hki hun hno=>by
    refine hfree k ok hk hki ?_ hno;by_cases hjk:j=k
    ·subst hjk;exact hjun
    ·rw [getD_set_ne true hjk] at hun;exact hun
   refine wpOp_mono (fun a' w' h3=>⟨fun _=>h3.2.1 hjz,ih (listed.setIfInBounds j true) a' w' hfree' (ready_mono hr (Ne.symm hji)) h3.1 (h3.2.1 hjz) ?_⟩) h2;rw [Array.setIfInBounds_comm _ _ hji];exact h3.2.2
theorem Jn5 {listed:Array Bool} {a:Act} {w:World} (hr:Region.ready md ops listed=[]) (h:Q .normal a w):∀fuel,Ji2 P md ops Q S z fuel listed a w
 | 0=>⟨hr,h⟩
 | _+1=>⟨fun _=>h,by rw [hr];simp⟩
end
def wpZ (P:Program) (md:Region.Mode) (ops:Array Oper) (Q:Exit→Act→World→Prop) (S:World→Prop) (z:Nat) (T:List Sk) (fuel:Nat) (l:List Bool) (a:Act) (w:World):Prop:=sk md ops=T→Region.noSelect ops=true→Ji2 P md ops Q S z fuel l.toArray a w
section
variable {P:Program} {md:Region.Mode} {ops:Array Oper} {Q:Exit→Act→World→Prop} {S:World→Prop} {z:Nat} {T:List Sk} {fuel:Nat} {l:List Bool} {a:Act} {w:World}
theorem Jdr {id:Nat} (T:List Sk) (N z:Nat) (hT:sk .any ops=T) (hsel:Region.noSelect ops=true) (hN:ops.size=N) (hm:P.follows .mixedOrders=true) (l:List Bool) (hl:List.replicate N false=l) (h:wpZ P .any ops Q S z T N l a w.drew):(Code.region id ops true).wp P Q a w :=
 wp_region_any hm (Ji3 _ _ _ _ (by
  have:=h hT hsel;subst hN;subst hl;rw [List.toArray_replicate] at this;exact this))
theorem J1m {i:Nat} {oz:Oper} (hz:ops[z]?=some oz) (h:(((sk md ops)[z]?).map fun t=>t.1.contains i).getD false=true):∃e∈oz.after,Region.binds md e=true∧e.on=i:=by
 rw [J1l,hz] at h;simp only [Option.map_some,Option.getD_some] at h;unfold skO at h;rw [List.contains_iff_mem] at h;obtain⟨e,he,hon⟩:=List.mem_map.1 h;obtain⟨he1,he2⟩:=List.mem_filter.1 he;exact⟨e,Array.mem_toList_iff.1 he1,he2,hon⟩
theorem takeZ {i:Nat} {oi oz:Oper} {v:Value} {a':Act} (d:Nat) (l':List Bool) (hl:l.set i true=l') (hi:ops[i]?=some oi) (hz:ops[z]?=some oz) (hd:oi.dst=some d) (hc:(Jmd T l i&&(Jbb T l).contains i&&((T[z]?).map fun t=>t.1.contains i).getD false&&(i != z))=true)
  (hQ:∀c a w,Q (.panic c) (a.put (some d) v) w→Q (.panic c) a w) (hy:YieldsIf P ops S oi v a) (hS:S w) (ha:a.put (some d) v=a')
  (h:wpZ P md ops Q S z T fuel l' a' w):wpZ P md ops Q S z T (fuel+1) l a w:=fun h1 h2=>by
 rw [Bool.and_eq_true,Bool.and_eq_true,Bool.and_eq_true] at hc;subst ha;subst hl;refine Jmg hi (Region.noSelect_spec h2) (by rw [hd];exact hQ) hz (J1m hz (by rw [h1];exact hc.1.2)) (by simpa using hc.2) fuel l.toArray a w (Region.free_spec hi (Jw5 (by rw [h1];exact hc.1.1.1))) (by rw [Jcg,h1];exact List.contains_iff_mem.1 hc.1.1.2) hy hS ?_;rw [Jch,hd];exact h h1 h2
theorem oneZ {i:Nat} {oi:Oper} (l':List Bool) (hl:l.set i true=l') (hr:Jbb T l=[i]) (hi:ops[i]?=some oi) (wi:Region.wanted oi (yielded ops a.tmps)=true)
  (h:∀K:Act→World→Prop,Shut (∀a w,(i≠z→S w)→wpZ P md ops Q S z T fuel l' a w→K a w)→Oper.wp P oi a w K Q):wpZ P md ops Q S z T (fuel+1) l a w:=fun h1 h2=>by
 subst hl;have hrr:Region.ready md ops l.toArray=[i]:=by rw [Jcg,h1];exact hr
 refine⟨fun h0=>(by rw [hrr] at h0;cases h0),fun j hj=>?_⟩;rw [hrr] at hj;have e:j=i:=by simpa using hj
 subst e;refine wpOp_step hi (fun K' hK=>?_);rw [if_pos wi];exact h K' (fun a w hS hW=>hK a w ⟨hS,by rw [Jch];exact hW h1 h2⟩)
theorem Qam {i:Nat} {oi:Oper} {f:FuncId} {vals:Array Value} {R:Value→World→Prop} (d:Nat) (l':List Bool) (hl:l.set i true=l') (hr:Jbb T l=[i]) (hi:ops[i]?=some oi) (hd:oi.dst=some d) (wi:Region.wanted oi (yielded ops a.tmps)=true)
  (hrun:(execOp a.eval oi).run P w=.ok (.enter f vals) w) (C:Calls P f vals w fun e w'=>∃u,e=.returned u∧R u w') (h:∀u w',R u w'→S w'∧wpZ P md ops Q S z T fuel l' (a.put (some d) u) w'):wpZ P md ops Q S z T (fuel+1) l a w :=
 oneZ l' hl hr hi wi fun _ hK=>Jw6 d hd hrun C fun u w' hR=>hK.out _ _ (fun _=>(h u w' hR).1) (h u w' hR).2
theorem Jcj {i:Nat} {oi:Oper} {v:Value} {w':World} {a':Act} (d:Nat) (l':List Bool) (hl:l.set i true=l') (hr:Jbb T l=[i]) (hi:ops[i]?=some oi) (hd:oi.dst=some d) (wi:Region.wanted oi (yielded ops a.tmps)=true)
  (hrun:(execOp a.eval oi).run P w=.ok (.value v) w') (hS:S w') (ha:a.put (some d) v=a') (h:wpZ P md ops Q S z T fuel l' a' w'):wpZ P md ops Q S z T (fuel+1) l a w :=
 oneZ l' hl hr hi wi fun _ hK=>Jgr d hd hrun (hK.out _ _ (fun _=>hS) (by rw [ha];exact h))
theorem Jds {oi:Oper} {w':World} (l':List Bool) (hl:l.set z true=l') (hr:Jbb T l=[z]) (hi:ops[z]?=some oi) (hd:oi.dst=none) (wi:Region.wanted oi (yielded ops a.tmps)=true)
  (hrun:(execOp a.eval oi).run P w=.ok .skip w') (h:wpZ P md ops Q S z T fuel l' a w'):wpZ P md ops Q S z T (fuel+1) l a w :=
 oneZ l' hl hr hi wi fun _ hK=>by
  unfold Oper.wp;rw [hrun,Oper.upon_skip,hd];exact hK.out _ _ (fun k=>absurd rfl k) h
theorem Jgd (hr:Jbb T l=[]) (h:Q .normal a w):wpZ P md ops Q S z T fuel l a w:=fun h1 _=>Jn5 (by rw [Jcg,h1];exact hr) h fuel
end
section
variable {P:Program} {md:Region.Mode} {ops:Array Oper} {Q:Exit→Act→World→Prop} {S:World→Prop} {T:List Sk} {fuel:Nat} {l:List Bool} {a:Act} {w:World} {z:Nat}
theorem Jco {i:Nat} {oi:Oper} {w':World} (l':List Bool) (hl:l.set i true=l') (hr:Jbb T l=[i]) (hi:ops[i]?=some oi) (hd:oi.dst=none) (wi:Region.wanted oi (yielded ops a.tmps)=true)
  (hrun:(execOp a.eval oi).run P w=.ok .skip w') (hS:S w') (h:wpT P md ops Q S T fuel l' a w'):wpT P md ops Q S T (fuel+1) l a w :=
 oneT l' hl hr hi wi fun _ hK=>by
  unfold Oper.wp;rw [hrun,Oper.upon_skip,hd];exact hK.out _ _ hS fun _=>h
theorem Jat {a:Act} {oi:Oper} {w:World} (ty:TypeId) (x:Operand) (ho:oi.op=.load ty x) (g:Nat) (hx:a.eval x=.pointer (some ⟨g,0,none⟩)) (t:TypeId) (cs:Array Value) (fr:Nat×Nat) (d:TypeDesc) (hg:w.heap[g]?=some (.cells cs t fr))
  (hu:P.underlying ty=some d) (hd:(match d with | .struct _ | .array _ _=>true | _=>false)=true) (hi:(P.info? ty).map (·.size)=some cs.size):(execOp a.eval oi).run P w=.ok (.value (.agg cs)) w:=by
 unfold execOp;simp only [ho,hx,Instr.loadAt,Instr.sureAddr,Sem.run_bind,Sem.run_pure,Result.andThen_ok,run_loadVar_row w g t ty cs fr d hg hu hd hi]
theorem Jan {a:Act} {oi:Oper} {w:World} (ty:TypeId) (x y:Operand) (ho:oi.op=.store ty x y) (g:Nat) (cells:Array Value) (hx:a.eval x=.pointer (some ⟨g,0,none⟩)) (hy:a.eval y=.agg cells)
  (t:TypeId) (old:Array Value) (hg:w.heap[g]?=some (.cells old t (0,0))) (hi:(P.info? ty).map (·.size)=some cells.size) (hold:old.size=cells.size) (h1:cells.all (·.oneCell')=true):(execOp a.eval oi).run P w=.ok .skip (w.setRow g cells):=by
 unfold execOp;simp only [ho,hx,hy,Instr.storeAt,Instr.sureAddr,Sem.run_bind,Sem.run_pure,Result.andThen_ok,run_storeVar_row w g t ty old cells hg hi hold h1]
def Jn6 (T:List Sk) (z:Nat):List Bool→List Nat→Bool
 | _,[]=>true
 | l,i::r=>(Jmd T l i&&(Jbb T l).contains i&&((T[z]?).map fun t=>t.1.contains i).getD false&&(i != z))&&Jn6 T z (l.set i true) r
theorem Jdd {L:List (Nat×Nat×Value)} {a a':Act} {oz:Oper} (hz:ops[z]?=some oz) (hT:Takes P ops S a L a'):∀{l l':List Bool} {w:World} (I:List Nat) (_:L.map (fun x=>x.1)=I) (_:Jsq l I=l') (_:Jn6 T z l I=true) (_:∀c a d v w,Q (.panic c) (Act.put a (some d) v) w→Q (.panic c) a w) (_:S w) (_:wpZ P md ops Q S z T fuel l' a' w),wpZ P md ops Q S z T (fuel+I.length) l a w:=by
 induction hT with
 | nil =>
  intro l l' w I hI hl hb hQ hS h;subst hI;subst hl;exact h
 | @cons a a' i d v r oi hi hd hy hr ih =>
  intro l l' w I hI hl hb hQ hS h;subst hI;simp only [List.map_cons] at hb hl ⊢;unfold Jn6 at hb;rw [Bool.and_eq_true] at hb;rw [List.length_cons,←Nat.add_assoc];exact takeZ d _ rfl hi hz hd hb.1 (fun c a w=>hQ c a d v w) hy hS rfl (ih _ rfl hl hb.2 hQ hS h)
theorem skipZ {i:Nat} {oi:Oper} (d:Nat) (l':List Bool) (hl:l.set i true=l') (hr:Jbb T l=[i]) (hi:ops[i]?=some oi) (hd:oi.dst=some d) (wi:Region.wanted oi (yielded ops a.tmps)=false) (hS:S w) (h:wpZ P md ops Q S z T fuel l' (a.put (some d) undef) w):wpZ P md ops Q S z T (fuel+1) l a w:=fun h1 h2=>by
 subst hl;have hrr:Region.ready md ops l.toArray=[i]:=by rw [Jcg,h1];exact hr
 refine⟨fun h0=>(by rw [hrr] at h0;cases h0),fun j hj=>?_⟩;rw [hrr] at hj;have e:j=i:=by simpa using hj
 subst e;refine wpOp_step hi (fun K' hK=>?_);rw [if_neg (by simp [wi]),hd];exact hK _ _ ⟨fun _=>hS,by rw [Jch];exact h h1 h2⟩
def J7p (T:List Sk):List Bool→List Nat→Bool
 | _,[]=>true
 | l,i::r=>Jbb T l==[i]&&J7p T (l.set i true) r
theorem Jgs {w:World} {L:List (Nat×Nat×Value)} {a a':Act} (hT:Takes P ops (fun X=>X=w) a L a'):∀{l l':List Bool} (I:List Nat) (_:L.map (fun x=>x.1)=I) (_:Jsq l I=l') (_:J7p T l I=true) (_:S w) (_:wpZ P md ops Q S z T fuel l' a' w),wpZ P md ops Q S z T (fuel+I.length) l a w:=by
 induction hT with
 | nil =>
  intro l l' I hI hl hb hS h;subst hI;subst hl;exact h
 | @cons a a' i d v r oi hi hd hy hr ih =>
  intro l l' I hI hl hb hS h;subst hI;simp only [List.map_cons] at hb hl ⊢;unfold J7p at hb;rw [Bool.and_eq_true] at hb;rw [List.length_cons,←Nat.add_assoc];rcases hy with ⟨hw,hy⟩ | ⟨hw,hy⟩
  ·exact Jcj d _ rfl (eq_of_beq hb.1) hi hd hw (hy w rfl) hS rfl (ih _ rfl hl hb.2 hS h)
  ·subst hy
   exact skipZ d _ rfl (eq_of_beq hb.1) hi hd hw hS (ih _ rfl hl hb.2 hS h)
end
theorem Ja1 {P:Program} {a:Act} {oi:Oper} {s x:Operand} {ST:TypeId} {v y v':Value} {w w':World} (ho:oi.op=.call { callee:=.builtin .append,args:=#[s,x],argTypes:=#[ST,ST] }) (hs:a.eval s=v) (hx:a.eval x=y) (hr:(Builtin.append_ #[ST,ST] oi.type #[v,y]).run P w=.ok v' w'):(execOp a.eval oi).run P w=.ok (.value v') w':=by
 unfold execOp;simp only [ho,resolve,invoke,builtin,Sem.run_bind,Sem.run_pure,Result.andThen_ok,List.map_toArray,List.map_cons,List.map_nil,hs,hx,hr]
theorem Gst.less {w0 W:World} {F:Nat} {T:TypeId} {vs:List Value} {ts:List Tng} {t:Tng} (h:Gst w0 F T vs (ts++[t]) W):Gst w0 F T vs ts W:=by
 have up:∀{i:Nat} {a:Tng},ts[i]?=some a→(ts++[t])[i]?=some a:=fun {i a} ha=>by rw [List.getElem?_append_left (List.getElem?_eq_some_iff.1 ha).1];exact ha
 exact⟨h.box,h.low,fun i a ha=>h.own i a (up ha),fun i a ha=>h.off i a (up ha),fun i j a b hij ha hb=>h.apart i j a b hij (up ha) (up hb),h.base⟩
def tObj (b:Nat) (o:Obj):Tng:=tBlk b fun W=>W.heap[b]?=some o
theorem tObj.at {base b:Nat} {o:Obj} {W:World} (h:W.heap[b]?=some o) (h0:base≤b):(tObj b o).At base W :=
 tBlk.at h h0 (Array.getElem?_eq_some_iff.1 h).1 fun _ _ _ h1 hg hn=>(hg.block b (Array.getElem?_eq_some_iff.1 h1).1 hn).trans h1
theorem Jcp (W:World) (b:Nat) (cs:Array Value):W.grownBy (W.setRow b cs) (some b) :=
 ⟨rfl,rfl,rfl,by simp,fun k _ hne=>setRow_other W b k cs (fun e=>hne (by rw [e]))⟩
theorem Gst.boxed {w0 W w2:World} {F b:Nat} {T t:TypeId} {vs vs':List Value} {ts:List Tng} {old:Array Value} (R:Gst w0 F T vs ts W) (h:Gst w0 F T vs' ts w2) (hb0:W.heap.size≤b) (hb1:w2.heap[b]?=some (.cells old t (0,0))) (cs:Array Value):Gst w0 F T vs' (ts++[tObj b (.cells cs t (0,0))]) (w2.setRow b cs):=by
 have hF:b≠F:=by have:=R.lt;omega
 have key:∀(j:Nat) (a:Tng),(ts++[tObj b (.cells cs t (0,0))])[j]?=some a→ts[j]?=some a∨(j=ts.length∧a=tObj b (.cells cs t (0,0))):=by
  intro j a ha;rw [List.getElem?_append] at ha;split at ha
  ·exact .inl ha
  ·next hlt =>
   right
   rw [List.getElem?_singleton] at ha;split at ha
   ·next e=>cases ha;exact⟨by omega,rfl⟩
   ·cases ha
 have off:∀(j:Nat) (a:Tng),ts[j]?=some a→a.own≠some b:=fun j a ha e=>by have:=((R.own j a ha).lt b e).2;omega
 have gr:=Jcp w2 b cs;refine⟨(gr.block F h.lt (fun e=>hF (Option.some.inj e).symm)).trans h.box,h.low,fun j a ha=>?_,fun j a ha e=>?_,fun j m a c hjm ha hc=>?_,Jby h.base gr (fun k e=>by cases e;exact Nat.le_trans R.base.size hb0)⟩
 ·rcases key j a ha with h1 | ⟨-,rfl⟩
  ·exact (h.own j a h1).on gr (.inr (off j a h1))
  ·exact tObj.at (setRow_heap w2 b old cs t (0,0) hb1) (Nat.le_trans R.base.size hb0)
 ·rcases key j a ha with h1 | ⟨-,rfl⟩
  ·exact h.off j a h1 e
  ·exact hF (Option.some.inj e)
 ·rcases key j a ha with h1 | ⟨e1,rfl⟩
  ·rcases key m c hc with h2 | ⟨-,rfl⟩
   ·exact h.apart j m a c hjm h1 h2
   ·exact fun k e1 e2=>off j a h1 (by rw [e1,←e2];rfl)
  ·rcases key m c hc with h2 | ⟨e2,-⟩
   ·exact fun k e1 e2=>off m c h2 (by rw [e2,←e1];rfl)
   ·omega
theorem Ja2 {ts:List Tng} {t x:Tng} {i:Nat} (h:ts[i]?=some x):(ts++[t])[i]?=some x:=by rw [List.getElem?_append_left (List.getElem?_eq_some_iff.1 h).1];exact h
theorem Gst.box_last {w0 W:World} {F b:Nat} {T:TypeId} {vs:List Value} {ts:List Tng} {o:Obj} (h:Gst w0 F T vs (ts++[tObj b o]) W):W.heap[b]?=some o:=(h.blk (i:=ts.length) (b:=b) (P:=fun W=>W.heap[b]?=some o) (by rw [List.getElem?_append_right (Nat.le_refl _),Nat.sub_self];rfl)).1
theorem Jb5 {W:World} {b i:Nat} {cs:List Value} {t:TypeId} {v:Value} (h:W.heap[b]?=some (.cells cs.toArray t (0,0))) (hv:cs[i]?=some v):W.cell? ⟨b,i,none⟩=some v:=by
 rw [cell_of_row _ _ _ _ _ _ h];simpa using hv
def Lq (W0:World) (o:Obj) (q:Value) (X:World):Prop:=∃b,q=.pointer (some ⟨b,0,none⟩)∧W0.heap.size≤b∧X.heap[b]?=some o
section
variable {F:Nat} {vs:List Value} {g:List Bs} {W0 X:World} {f:FuncId} {x:Array Value} {k k':Nat} {e e':Int} {u:Value}
theorem Rdr.run (h:Rdr F vs g W0 f x k e u k' e') (o:Obj) (X:World) (hX:Nx F vs g W0 k e X):Calls prog f x X fun r X'=>r=.returned u∧Nx F vs g W0 k' e' X'∧∀q,Lq W0 o q X→Lq W0 o q X' :=
 (h X hX).mono fun r X' hh=>⟨hh.1,hh.2.1,fun q ⟨b,e,h0,h1⟩=>⟨b,e,h0,hh.2.2 b o (by have:=hX.2.1;omega) h1⟩⟩
theorem Nx.new (o:Obj) (X:World) (h:Nx F vs g W0 k e X):Nx F vs g W0 k e (X.alloc o)∧Lq W0 o (.pointer (some ⟨X.heap.size,0,none⟩)) (X.alloc o) :=
 ⟨h.on ((Below.refl _ _).alloc (Nat.le_refl _) _),_,rfl,h.1.size,heap_alloc_new X o⟩
theorem Jqh {s:Bs}:∀{ls:List Bs},s∈ls→ls.findIdx? (fun x=>decide (x=s))=some (ls.idxOf s)
 | a::ls,h=>by
  by_cases e:a=s
  ·subst e
   simp [List.findIdx?_cons]
  ·have hm:s∈ls:=(List.mem_cons.1 h).elim (fun h=>absurd h.symm e) id
   have eb:(a==s)=false:=by simpa using e
   simp [List.findIdx?_cons,List.idxOf_cons,e,eb,Jqh hm]
theorem J7q {ls:List Bs} {s:Bs}:(if s∈ls then (ls.idxOf s:Int) else 0)=(fnd 9 ls s).1∧decide (s∈ls)=decide ((fnd 9 ls s).2=0):=by
 by_cases h:s∈ls
 ·unfold fnd
  rw [if_pos h,Jqh h];exact⟨rfl,by simp [h]⟩
 ·rw [if_neg h,Jj7 (fun j _ q=>h (List.mem_iff_getElem?.2 ⟨j,q⟩))]
  exact⟨rfl,by simp [h]⟩
theorem Jcs (B:Nat) (ids:List Bs) (hM:MapF W0 B ids) (hB:B≠F) (k:Nat) (e:Int) (hg:(g.getD k []).length≤65536):Rdr F vs g W0 181 #[.pointer (some ⟨F,0,none⟩),.map (some B)] k e (.int .i64 (fnd 9 ids (g.getD k [])).1) (k+1) (fe1 e (fnd 9 ids (g.getD k [])).2):=by
 intro W h;have C1:=Lib.hid (Jbj (F:=F) (vs:=vs) (g:=g) (W0:=W0) k e W h);have M:=Lib.hid (fun (w:World) (hw:W0.grownBy w (some F))=>(hM.kept hw (by simpa using hB)).look (str (g.getD k [])) (g.getD k []) rfl (by omega));have E:Hid ((if decide ((fnd 9 ids (g.getD k [])).2=0)=true then e else fe1 e 9)=fe1 e (fnd 9 ids (g.getD k [])).2):=Lib.hid (Jw2 _ _ _ _);obtain⟨i1,i2⟩:=J7q (ls:=ids) (s:=g.getD k []);rw [i1,i2] at M;clear i1 i2 hM hg;generalize str (g.getD k [])=s at C1 M;generalize fnd 9 ids (g.getD k [])=q at M E ⊢;obtain⟨b,hb⟩:∃b,decide (q.2=0)=b:=⟨_,rfl⟩;rw [hb] at M E;have C3:=Lib.hid (fun W'=>Jc4 (F:=F) (vs:=vs) (g:=g) (W0:=W0) b 9 (k+1) e W');clear h hb;go_enter func181,ntmps181
 go_wp2_with fail
 refine C1.out.mono ?_;rintro r w1 ⟨rfl,n1,s1⟩;have m1:=M.out w1 n1.1;have D3:=Lib.hid (C3.out w1 n1);have S1:=Lib.hid s1;clear n1 s1 C1 C3 M;go_wp2_with fail
 refine D3.out.mono ?_;rintro r w3 ⟨rfl,n3,s3⟩;have N3:=Lib.hid n3;have S3:=Lib.hid (S1.out.trans s3);clear n3 s3 D3;go_wp2_with fail
 go_ret;exact⟨rfl,by rw [←E.out];exact N3.out,S3.out⟩
theorem J1n (k:Nat) (e:Int):Rdr F vs g W0 184 #[.pointer (some ⟨F,0,none⟩)] k e (.tuple #[.bool (decide ((prm (g.getD k [])).1=1∨(prm (g.getD k [])).1=3)),.bool (decide (2≤(prm (g.getD k [])).1))]) (k+1) (fe1 e (prm (g.getD k [])).2):=by
 intro W h;have C1:=Lib.hid (Jbj (F:=F) (vs:=vs) (g:=g) (W0:=W0) k e W h);obtain⟨t,ht⟩:∃t,g.getD k []=t:=⟨_,rfl⟩;rw [ht] at C1 ⊢;have C3:=Lib.hid (fun b W'=>Jc4 (F:=F) (vs:=vs) (g:=g) (W0:=W0) b 3 (k+1) e W');have e0:fe1 e 0=e:=Jcf e;clear h ht;have key:∀w:Bs,((str t).toList==w)=decide (t=w):=fun w=>by
  have tl:(str t).toList=t:=by rw [Lib.toList_data]
  rw [tl];by_cases q:t=w <;> simp [q]
 have go:∀(p1 p2 p3 p4:Bool) (z:Int×Int),decide (t=Jnp)=p1→decide (t=Jhl)=p2→decide (t=Jey)=p3→decide (t=Jno)=p4→prm t=z→(p1 || p2)=decide (z.1=1∨z.1=3)→(p1 || p3)=decide (2≤z.1)→(if (p1 || p2 || p3 || p4)=true then e else fe1 e 3)=fe1 e z.2 →
   Calls prog 184 #[.pointer (some ⟨F,0,none⟩)] W fun r W'=>r=.returned (.tuple #[.bool (decide (z.1=1∨z.1=3)),.bool (decide (2≤z.1))])∧Nx F vs g W0 (k+1) (fe1 e z.2) W'∧Jfn F W W':=by
  intro p1 p2 p3 p4 z h1 h2 h3 h4 _ g1 g2 g3;have c1:=key Jnp;have c2:=key Jhl;have c3:=key Jey;have c4:=key Jno;rw [h1] at c1;rw [h2] at c2;rw [h3] at c3;rw [h4] at c4;rw [←g1,←g2];have G3:=Lib.hid g3;clear key h1 h2 h3 h4 g1 g2 g3;have c1:((str t).toList==[98,111,116,104])=p1:=c1;have c2:((str t).toList==[98,111,97,114,100])=p2:=c2;have c3:((str t).toList==[97,108,105,103,104,116])=p3:=c3;have c4:((str t).toList==[110,111,110,101])=p4:=c4;generalize str t=s at C1 c1 c2 c3 c4;clear e0;have D:=Lib.hid (C3.out (p1 || p2 || p3 || p4));clear C3;cases p1 <;> cases p2 <;> cases p3 <;> cases p4
  all_goals
   go_enter func184,ntmps184
   go_wp2_with fail
   refine C1.out.mono ?_;rintro r w1 ⟨rfl,n1,s1⟩;have D3:=Lib.hid (D.out w1 n1);have S1:=Lib.hid s1;clear n1 s1 C1 D;go_wp2_with fail
   refine D3.out.mono ?_;rintro r w3 ⟨rfl,n3,s3⟩;have N3:=Lib.hid n3;have S3:=Lib.hid (S1.out.trans s3);clear n3 s3 D3;go_wp2_with fail
   go_ret2;exact⟨rfl,by rw [←G3.out];exact N3.out,S3.out⟩
 have hz:∀(i:Nat) (w:Bs),[Jno,Jhl,Jey,Jnp][i]?=some w→t=w→prm t=((i:Int),0):=fun i w hi ht=>by subst ht;exact J90 (l:=[Jno,Jhl,Jey,Jnp]) (by decide) hi
 by_cases q1:t=Jnp
 ·exact go true false false false (3,0) (by rw [q1];rfl) (by rw [q1];rfl) (by rw [q1];rfl) (by rw [q1];rfl) (hz 3 _ rfl q1) rfl rfl (by rw [e0];rfl) |> fun h=>by rw [hz 3 _ rfl q1];exact h
 by_cases q2:t=Jhl
 ·exact go false true false false (1,0) (by rw [q2];rfl) (by rw [q2];rfl) (by rw [q2];rfl) (by rw [q2];rfl) (hz 1 _ rfl q2) rfl rfl (by rw [e0];rfl) |> fun h=>by rw [hz 1 _ rfl q2];exact h
 by_cases q3:t=Jey
 ·exact go false false true false (2,0) (by rw [q3];rfl) (by rw [q3];rfl) (by rw [q3];rfl) (by rw [q3];rfl) (hz 2 _ rfl q3) rfl rfl (by rw [e0];rfl) |> fun h=>by rw [hz 2 _ rfl q3];exact h
 by_cases q4:t=Jno
 ·exact go false false false true (0,0) (by rw [q4];rfl) (by rw [q4];rfl) (by rw [q4];rfl) (by rw [q4];rfl) (hz 0 _ rfl q4) rfl rfl (by rw [e0];rfl) |> fun h=>by rw [hz 0 _ rfl q4];exact h
 have hm:prm t=(0,3):=Jj7 (fun j hj=>by
  match j,hj with
  | 0,_=>simpa using fun q=>q4 q.symm
  | 1,_=>simpa using fun q=>q2 q.symm
  | 2,_=>simpa using fun q=>q3 q.symm
  | 3,_=>simpa using fun q=>q1 q.symm
  | j+4,hj=>simp at hj;omega)
 rw [hm];exact go false false false false (0,3) (decide_eq_false q1) (decide_eq_false q2) (decide_eq_false q3) (decide_eq_false q4) hm rfl rfl rfl
end
structure Fo (F_:Fm) (w0:World):Prop where
 num:∀(a:Bs),a.length≤65536→∀w:World,Below w0.heap.size w0 w→Calls prog 250 #[.string (str a)] w fun r w'=>r=.returned (.tuple #[.int .i64 (F_.num a).1,.int .i64 (F_.num a).2])∧Below w.heap.size w w'
 prc:∀(a:Bs),a.length≤65536→∀w:World,Below w0.heap.size w0 w→Calls prog 256 #[.string (str a)] w fun r w'=>r=.returned (.tuple #[.int .i64 (F_.prc a).1,.int .i64 (F_.prc a).2])∧Below w.heap.size w w'
 tim:∀(a:Bs),a.length≤65536→∀w:World,Below w0.heap.size w0 w→Calls prog 254 #[.string (str a)] w fun r w'=>r=.returned (.tuple #[.int .i64 (F_.tim a).1,.int .i64 (F_.tim a).2])∧Below w.heap.size w w'
 dur:∀(a:Bs),a.length≤65536→∀w:World,Below w0.heap.size w0 w→Calls prog 255 #[.string (str a)] w fun r w'=>r=.returned (.tuple #[.int .i64 (F_.dur a).1,.int .i64 (F_.dur a).2])∧Below w.heap.size w w'
 day:∀(a:Bs),a.length≤65536→∀w:World,Below w0.heap.size w0 w→Calls prog 253 #[.string (str a)] w fun r w'=>r=.returned (.tuple #[.int .i64 (F_.day a).1,.int .i64 (F_.day a).2])∧Below w.heap.size w w'
 mds:∀(a:Bs),a.length≤65536→∀w:World,Below w0.heap.size w0 w→Calls prog 257 #[.string (str a)] w fun r w'=>r=.returned (.tuple #[.int .i64 (F_.mds a).1,.int .i64 (F_.mds a).2])∧Below w.heap.size w w'
 mode:∀(a:Bs),a.length≤65536→∀w:World,Below w0.heap.size w0 w→Calls prog 252 #[.string (str a)] w fun r w'=>r=.returned (.tuple #[.int .i64 (fnd 3 nmL a).1,.bool (decide ((fnd 3 nmL a).2=0))])∧Below w.heap.size w w'
structure Rec (w0:World) (F:Nat) (vs:List Value) (ts:List Tng) (g:List Bs) (W:World):Prop where
 st:Gst w0 F 80 vs ts W
 prd:∃v,Prd F W.heap.size vs v g 0 W
 len:g.length≤1000000
 fld:∀k,(g.getD k []).length≤65536
structure Tbl (w0:World) (vs:List Value) (ts:List Tng) (i:Nat) (T:TypeId) (k:Nat) (v:Value) (n:Nat) (xs:List Value):Prop where
 cell:vs[2+i]?=some v
 row:ts[i]?=some (tRow w0.heap.size ⟨T,k,v,n,xs⟩)
 few:n≤1000000
def tIdx (B:Nat) (ids:List Bs):Tng:=tBlk B fun W=>MapF W B ids
structure Ix (vs:List Value) (ts:List Tng) (j B:Nat) (ids:List Bs):Prop where
 cell:vs[17+j]?=some (.map (some B))
 map:ts[11+j]?=some (tIdx B ids)
theorem tIdx.at {base B:Nat} {ids:List Bs} {W:World} (h:MapF W B ids) (h0:base≤B):(tIdx B ids).At base W:=tBlk.at h h0 h.lt fun _ _ _ h1 hg hn=>h1.kept hg hn
section
variable {w0 W X:World} {F:Nat} {vs:List Value} {ts:List Tng} {g:List Bs} {k:Nat} {e:Int}
theorem Rec.low (h:Rec w0 F vs ts g W) (q:W.grownBy X (some F)):Below w0.heap.size w0 X:=Jby h.st.base q (fun k e=>by cases e;exact h.st.low)
theorem Rec.up (h:Rec w0 F vs ts g W) (n:Nx F vs g W k e X):∃v,Gst w0 F 80 (set2 vs v e) ts X:=by
 obtain⟨n1,-,v,n3⟩:=n;exact⟨v,h.st.up n1 n3.box⟩
theorem Ix.off {j B:Nat} {ids:List Bs} (h:Ix vs ts j B ids) (R:Gst w0 F 80 vs ts W):MapF W B ids∧B≠F:=⟨(R.blk h.map).1,(R.blk h.map).2.2.2⟩
end
theorem Jfo (B:Nat) (ids:List Bs) (x:Bs) (s:ByteArray) (hs:str x=s) (hx:x.length≤65536) (hn:ids.length≤1000000) (n:Nat) (he:n=ids.length) (w:World) (h:MapF w B ids) :
  Calls prog 177 #[.map (some B),.string s,.int .i64 (n:Int)] w fun r w'=>∃u,r=.returned u∧MapF w' B (ids++[x])∧w.grownBy w' (some B):=by
 subst he;have m:=h.look s x hs (by omega);by_cases hm:x∈ids
 ·rw [if_pos hm,decide_eq_true hm] at m
  have A:=Lib.hid (h.again hm);generalize ids.idxOf x=i at m;clear h hm hs;go_enter func177,ntmps177
  go_wp2_with fail
  go_end0;exact⟨_,rfl,A.out,Jbm (Below.refl _ _) _⟩
 ·rw [if_neg hm,decide_eq_false hm] at m
  obtain⟨w',m2,a1,a2⟩:=h.put s x hs (by omega) hm (by omega);have A:=Lib.hid a1;have A2:=Lib.hid a2;clear h hm hs a1 a2;go_enter func177,ntmps177
  go_wp2_with fail
  go_end0;exact⟨_,rfl,A.out,A2.out⟩
def wkB (t:Bs) (k i:Nat):Bool:=decide (i<k)&&decide (t[i]?=some 49)
def wkC (t:Bs) (k:Nat):Array Value:=#[.bool (wkB t k 0),.bool (wkB t k 1),.bool (wkB t k 2),.bool (wkB t k 3),.bool (wkB t k 4),.bool (wkB t k 5),.bool (wkB t k 6)]
theorem J1o {t:Bs} {k i:Nat} (h:i≠k):wkB t (k+1) i=wkB t k i:=by
 unfold wkB;have:decide (i<k+1)=decide (i<k):=by simp only [decide_eq_decide];omega
 rw [this]
theorem J7r (t:Bs) (k:Nat) (hk:k<7):(wkC t k).setIfInBounds k (.bool (decide (t[k]?=some 49)))=wkC t (k+1):=by
 have e:wkB t (k+1) k=decide (t[k]?=some 49):=by unfold wkB;simp
 rw [←e];unfold wkC;match k,hk with
 | 0,_ | 1,_ | 2,_ | 3,_ | 4,_ | 5,_ | 6,_=>simp [J1o]
theorem Qan (t:Bs) (k:Nat) (hk:k<7):(wkC t k)[k]?=some (.bool false):=by
 have e:wkB t k k=false:=by unfold wkB;simp
 rw [←e];unfold wkC;match k,hk with
 | 0,_ | 1,_ | 2,_ | 3,_ | 4,_ | 5,_ | 6,_=>rfl
theorem Jw7 (t:Bs) (k:Nat):(wkC t k).all (·.oneCell')=true:=by simp [wkC,Value.oneCell']
theorem J1p (t:Bs):wkC t 0=#[.bool false,.bool false,.bool false,.bool false,.bool false,.bool false,.bool false]:=by simp [wkC,wkB]
theorem J1q (t:Bs) (k:Nat):(wkC t k).size=7:=rfl
theorem Jdt (t:Bs) (k:Nat):(prog.info? 59).map (·.size)=some (wkC t k).size:=by rw [J1q];kernel_rfl
theorem wk_ix (B k:Nat) (hk:k<7) (W:World):(Instr.indexAt 59 (.pointer (some ⟨B,0,none⟩)) (.int .i64 (k:Int))).run prog W=.ok (.pointer (some ⟨B,k,none⟩)) W:=by
 have he:prog.elem 59=4:=by kernel_rfl
 have hl:prog.arrayLen 59=7:=by kernel_rfl
 rw [run_indexAt_array W 59 _ _ _ (by rw [he,hl];exact underlying59),hl,he,if_pos (by omega)];simp [sizeOf4,Addr.add];exact fun h=>h.symm
def okW (b:UInt8):Bool:=b==48 || b==49
def wkE (e:Int) (t:Bs) (k:Nat):Int:=fe1 e (if (t.take k).all okW then 0 else 3)
theorem Qao {e:Int} {t:Bs} {k:Nat} {c:UInt8} (hc:t[k]?=some c) (h:okW c=true):wkE e t (k+1)=wkE e t k:=by
 unfold wkE;rw [Jb0 t k c hc,List.all_append];simp [h]
theorem Qap {e:Int} {t:Bs} {k:Nat} {c:UInt8} (hc:t[k]?=some c) (h:okW c=false):wkE e t (k+1)=fe1 (wkE e t k) 3:=by
 unfold wkE;rw [Jb0 t k c hc,List.all_append];have:(((t.take k).all okW)&&([c].all okW))=false:=by simp [h]
 rw [this];by_cases q:(t.take k).all okW=true
 ·rw [if_pos q,Jcf];rfl
 ·rw [if_neg q]
  by_cases he:e=0
  ·subst he;rfl
  ·rw [Jhs he];simp [Jhs he]
end
end Go.Proofs.YtpifdbphmnifdaaGreatDoor
