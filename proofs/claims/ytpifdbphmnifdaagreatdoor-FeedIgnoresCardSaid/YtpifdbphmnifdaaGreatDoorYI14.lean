/-
  Facts of the proof. Condition: each theorem's own.
-/
import Derived.Test.YtpifdbphmnifdaaGreatDoorYI13
set_option maxRecDepth 100000
set_option maxHeartbeats 8000000
open Go.Proofs.Tryz
namespace Go.Proofs.YtpifdbphmnifdaaGreatDoor
section
open Go
def exB:Bs:=[115,116,111,112,44,65,44,48,44,121,101,115,44,48,10,115,116,111,112,44,66,44,49,44,110,111,44,49,50,48,10,114,111,117,116,101,44,82,44,98,117,115,44,110,111,10,99,97,108,101,110,100,97,114,44,67,44,49,49,49,49,49,48,48,44,50,48,50,53,45,48,49,45,48,49,44,50,48,50,53,45,49,50,45,51,49,10,116,114,105,112,44,84,44,82,44,67,44,121,101,115,10,99,97,108,108,44,65,44,48,56,58,48,48,58,48,48,44,48,56,58,48,48,58,48,48,44,98,111,97,114,100,10,99,97,108,108,44,66,44,48,56,58,51,48,58,48,48,44,48,56,58,51,49,58,48,48,44,97,108,105,103,104,116,10,112,97,116,104,44,65,44,66,44,49,48,109,48,48,115,44,110,111,10,112,114,111,100,117,99,116,44,115,105,110,103,108,101,44,50,46,53,48,44,49,44,49,54,44,48,115,44,98,117,115,43,116,114,97,109,10]
def ex2:Bs:=[115,116,111,112,44,65,44,48,44,121,101,115,44,48,10,115,116,111,112,44,66,44,49,44,110,111,44,49,50,48,10,99,97,108,101,110,100,97,114,44,67,44,49,49,49,49,49,48,48,44,50,48,50,53,45,48,49,45,48,49,44,50,48,50,53,45,49,50,45,51,49,10,116,114,105,112,44,84,44,82,44,67,44,121,101,115,10]
def ex3:Bs:=[115,116,111,112,44,65,44,48,44,121,101,115,44,48,10,115,116,111,112,44,65,44,49,44,110,111,44,49,50,48,10]
def ex4:Bs:=[35,32,110,111,32,115,116,111,112,115,10,10,99,97,108,108,44,65,44,48,56,58,48,48,58,48,48,44,48,56,58,48,48,58,48,48,44,98,111,97,114,100,10]
def ex5:Bs:=[115,116,111,112,44,65,44,48,44,121,101,115,44,48]
def exU (v:Value):Tt:=⟨[([65],0,true,0),([66],1,false,120)],[([82],0,false)],[([67],fun i=>decide ([49,49,49,49,49,48,48][i]?=some (49:UInt8)),9132,9496)],[],[([84],0,0,true,v,[(0,28800,28800,true,false),(1,30600,30660,false,true)])],[],[],[],[(0,1,600,false)],[([115,105,110,103,108,101],250,1,16,0,3)],0,0,0⟩
theorem J1h:Jbe fmR exB=(exU (.slice none 0 0),0,0):=by kernel_rfl
theorem Qaj:(Jbe fmR ex2).2=(4,9):=by kernel_rfl
theorem J1i:(Jbe fmR ex3).2=(2,6):=by kernel_rfl
theorem J7m:(Jbe fmR ex4).2=(3,8):=by kernel_rfl
theorem J7n:(Jbe fmR ex5).2=(0,4):=by kernel_rfl
theorem Jwz:feedF fmR (exU (.slice none 0 0))=(exB,0):=by kernel_rfl
theorem Qak {U:Tt} (h:CopT (exU (.slice none 0 0)) U):∃v,U=exU v:=by
 obtain⟨st,ro,ca,ex,tr,fr,th,gu,pa,pr,di,wi,cp⟩:=U;obtain⟨h0,h1,h2,h3,h4,h5,h6,h7,h8,h9,h10,h11,h12⟩:=h;dsimp only at h0 h1 h2 h3 h4 h5 h6 h7 h8 h9 h10 h11 h12;match tr,h4 with
 | [],h4=>simp [exU] at h4
 | [(a,b,c,d,v,l)],h4 =>
  have h4:[noV (a,b,c,d,v,l)]=[(([84],0,0,true,[(0,28800,28800,true,false),(1,30600,30660,false,true)]):List UInt8×Int×Int×Bool×List Cl)]:=h4;simp only [noV,List.cons.injEq,and_true,Prod.mk.injEq] at h4;obtain⟨rfl,rfl,rfl,rfl,rfl⟩:=h4;subst h0 h1 h2 h3 h5 h6 h7 h8 h9 h10 h11 h12;exact⟨v,rfl⟩
 | x::y::r,h4=>simp [exU] at h4
theorem Jso (v:Value):feedF fmR (exU v)=(exB,0):=by
 rw [←Jwz];exact CopT.feedF fmR (T:=exU (.slice none 0 0)) ⟨rfl,rfl,rfl,rfl,rfl,rfl,rfl,rfl,rfl,rfl,rfl,rfl,rfl⟩
open Go.RowKit
structure Rw where
 T:TypeId
 k:Nat
 v:Value
 n:Nat
 xs:List Value
def Rw.At (base:Nat) (W:World) (r:Rw):Prop:=W.ownsRow base r.T r.k r.v r.n r.xs
section
variable {w0 W W':World} {F:Nat} {T:TypeId} {vs:List Value} {rs:List Rw}
theorem Jn2 (h:W.grownBy W' none):Below W.heap.size W W':=⟨h.os,h.tape,h.output,h.size,fun k hk=>h.block k hk (by simp)⟩
theorem Jbm (h:Below W.heap.size W W') (row:Option Nat):W.grownBy W' row:=⟨h.os,h.tape,h.output,h.size,fun k hk _=>h.block k hk⟩
theorem Jby {w0 W W':World} {row:Option Nat} (hb:Below w0.heap.size w0 W) (h:W.grownBy W' row) (hr:∀g,row=some g→w0.heap.size≤g):Below w0.heap.size w0 W' :=
 hb.trans ⟨h.os,h.tape,h.output,h.size,fun k hk=>h.block k (Nat.lt_of_lt_of_le hk hb.size) (fun e=>by have:=hr k e.symm;omega)⟩
theorem Jbi (W:World) (F i:Nat) (u:Value):W.grownBy (W.setCell ⟨F,i,none⟩ u) (some F) :=
 ⟨rfl,rfl,rfl,by simp,fun k _ hne=>RowKit.Below.heap_setCell _ _ _ k (fun e=>hne (by rw [e]))⟩
end
theorem Jbz {α:Type} {enc:α→List Value} {k:Nat} {T ST:TypeId} {z:Value} {bytes:Nat} (hk:∀a,(enc a).length=k) (k0:0<k) (hu:prog.underlying ST=some (.slice T)) (hinfo:(prog.info? T).map (fun i=>(i.zero,i.size,i.bytes))=some (some z,k,bytes)) (hz0:z.cells.size=k) (hb64:bytes≤64)
  (w:World) (ty:TypeId) (base:Nat) (v:Value) (l:List α) (m:α) (hone:∀u∈enc m,u.oneCell'=true) (hown:OwnG enc T k w base v l) (b:Nat) (cells:Array Value) (hbk:w.heap[b]?=some (.cells cells T (0,0))) (hc:cells.toList=enc m) (hb:base≤w.heap.size) (hl:l.length+1≤1099511627776) :
  ∃v' w',(Builtin.append_ #[ST,ST] ty #[v,.slice (some ⟨b,0,none⟩) 1 1]).run prog w=.ok v' w'∧OwnG enc T k w' base v' (l++[m])∧w.grownBy w' v.ownBlock∧(∀g,v'.ownBlock=some g→v.ownBlock=some g∨w.heap.size≤g):=by
 obtain⟨i,hi,hz,hsz,hby⟩:=info_parts hinfo;obtain⟨v',w',hr,h2,h3,h4⟩:=Jd8 (P:=prog) w base ST ty T i z k bytes hu hi hz hsz hby hz0 k0 v l.length (fl enc l) hown ⟨b,0,none⟩ 1 1 (enc m) (by rw [hk,Nat.one_mul]) (fun j u hu=>by
  have hadd:(⟨b,0,none⟩:Addr).add j=⟨b,j,none⟩:=by unfold Addr.add;split <;> simp_all
  rw [hadd,cell_of_row w b j cells _ _ hbk,←hu,←hc];simp) hone (by unfold maxLen;omega) (Nat.le_trans (Nat.mul_le_mul_left _ hb64) (by omega)) hb
 refine⟨v',w',hr,?_,h3,fun g hg=>(h4 g hg).imp id (fun e=>by omega)⟩;have e:fl enc (l++[m])=fl enc l++enc m:=by rw [Jow,Jox]
 unfold OwnG;rw [List.length_append,e];exact h2
structure Tng where
 own:Option Nat
 A:World→Prop
structure Tng.At (base:Nat) (W:World) (t:Tng):Prop where
 holds:t.A W
 lt:∀g,t.own=some g→base≤g∧g<W.heap.size
 kept:∀W1 W2 row,t.A W1→W1.grownBy W2 row→(t.own=none∨t.own≠row)→t.A W2
def tRow (base:Nat) (r:Rw):Tng:=⟨r.v.ownBlock,fun W=>r.At base W⟩
def tBlk (b:Nat) (P:World→Prop):Tng:=⟨some b,P⟩
theorem tRow.at {base:Nat} {W:World} {r:Rw} (h:r.At base W):(tRow base r).At base W:=⟨h,fun g hg=>World.ownsRow.lt h g hg,fun _ _ _ h1 hg hn=>World.ownsRow.kept h1 hg hn⟩
theorem tBlk.at {base b:Nat} {P:World→Prop} {W:World} (h:P W) (h0:base≤b) (h1:b<W.heap.size) (hk:∀W1 W2 row,P W1→W1.grownBy W2 row→some b≠row→P W2):(tBlk b P).At base W :=
 ⟨h,fun g hg=>by cases hg;exact⟨h0,h1⟩,fun W1 W2 row q hg hn=>hk W1 W2 row q hg (hn.elim (fun e=>by cases e) id)⟩
theorem Tng.At.on {base:Nat} {W W':World} {t:Tng} (h:t.At base W) {row:Option Nat} (g:W.grownBy W' row) (hn:t.own=none∨t.own≠row):t.At base W' :=
 ⟨h.kept _ _ _ h.holds g hn,fun k hk=>⟨(h.lt k hk).1,Nat.lt_of_lt_of_le (h.lt k hk).2 g.size⟩,h.kept⟩
def Aprt (a b:Tng):Prop:=∀g,a.own=some g→b.own≠some g
theorem Aprt.symm {a b:Tng} (h:Aprt a b):Aprt b a:=fun g hb ha=>h g ha hb
structure Gst (w0:World) (F:Nat) (T:TypeId) (vs:List Value) (ts:List Tng) (W:World):Prop where
 box:W.heap[F]?=some (.cells vs.toArray T (0,0))
 low:w0.heap.size≤F
 own:∀(i:Nat) (t:Tng),ts[i]?=some t→t.At w0.heap.size W
 off:∀(i:Nat) (t:Tng),ts[i]?=some t→t.own≠some F
 apart:∀(i j:Nat) (a b:Tng),i≠j→ts[i]?=some a→ts[j]?=some b→Aprt a b
 base:Below w0.heap.size w0 W
section
variable {w0 W W':World} {F:Nat} {T:TypeId} {vs vs':List Value} {ts:List Tng}
theorem Gst.lt (h:Gst w0 F T vs ts W):F<W.heap.size:=(Array.getElem?_eq_some_iff.1 h.box).1
theorem Gst.cell (h:Gst w0 F T vs ts W) {i:Nat} {v:Value} (hv:vs[i]?=some v):W.cell? ⟨F,i,none⟩=some v∧W.frozen? ⟨F,i,none⟩=false :=
 ⟨by rw [cell_of_row _ _ _ _ _ _ h.box];simpa using hv,frozen_of_row _ _ _ _ _ h.box⟩
theorem Gst.row (h:Gst w0 F T vs ts W) {i:Nat} {r:Rw} (hi:ts[i]?=some (tRow w0.heap.size r)):r.At w0.heap.size W:=(h.own i _ hi).holds
theorem Gst.blk (h:Gst w0 F T vs ts W) {i b:Nat} {P:World→Prop} (hi:ts[i]?=some (tBlk b P)):P W∧w0.heap.size≤b∧b<W.heap.size∧b≠F :=
 ⟨(h.own i _ hi).holds,((h.own i _ hi).lt b rfl).1,((h.own i _ hi).lt b rfl).2,fun e=>h.off i _ hi (by rw [←e];rfl)⟩
theorem Gst.on (h:Gst w0 F T vs ts W) (b:Below W.heap.size W W'):Gst w0 F T vs ts W' :=
 ⟨(b.block _ h.lt).trans h.box,h.low,fun i t ht=>(h.own i t ht).on (Jbm b none) (by cases t.own <;> simp),h.off,h.apart,h.base.trans (b.mono h.base.size)⟩
theorem Gst.up (h:Gst w0 F T vs ts W) (g:W.grownBy W' (some F)) (hb:W'.heap[F]?=some (.cells vs'.toArray T (0,0))):Gst w0 F T vs' ts W' :=
 ⟨hb,h.low,fun i t ht=>(h.own i t ht).on g (.inr (h.off i t ht)),h.off,h.apart,Jby h.base g (fun k e=>by cases e;exact h.low)⟩
theorem Gst.put (h:Gst w0 F T vs ts W) (i:Nat) (u:Value):Gst w0 F T (vs.set i u) ts (W.setCell ⟨F,i,none⟩ u) :=
 h.up (Jbi W F i u) (by rw [heap_setCell_same _ _ _ _ _ _ h.box,List.setIfInBounds_toArray])
theorem Gst.turn (h:Gst w0 F T vs ts W) {i:Nat} {t t':Tng} (hi:ts[i]?=some t) (g:W.grownBy W' t.own) (ho:t'.At w0.heap.size W') (hw:∀k,t'.own=some k→t.own=some k∨W.heap.size≤k):Gst w0 F T vs (ts.set i t') W':=by
 have keep:∀j a,i≠j→ts[j]?=some a→a.At w0.heap.size W':=fun j a hj ha=>(h.own j a ha).on g (by
  cases hv:a.own with
  | none=>exact .inl rfl
  | some k=>exact .inr (fun e=>h.apart i j t a hj hi ha k (e.symm) hv))
 have new:∀j a k,i≠j→ts[j]?=some a→t'.own=some k→a.own≠some k:=fun j a k hj ha hk e=>by
  rcases hw k hk with hr | hr
  ·exact h.apart i j t a hj hi ha k hr e
  ·have:=((h.own j a ha).lt k e).2
   omega
 refine⟨(g.block F h.lt (fun e=>h.off i t hi e.symm)).trans h.box,h.low,fun j a ha=>?_,fun j a ha e=>?_,fun j m a b hjm ha hb=>?_,Jby h.base g (fun k e=>((h.own i t hi).lt k e).1)⟩
 ·rw [List.getElem?_set] at ha
  split at ha
  ·next e =>
   split at ha
   ·cases ha;exact ho
   ·cases ha
  ·next e=>exact keep j a e ha
 ·rw [List.getElem?_set] at ha
  split at ha
  ·next e' =>
   split at ha
   ·cases ha
    rcases hw F e with hr | hr
    ·exact h.off i t hi hr
    ·have:=h.lt;omega
   ·cases ha
  ·exact h.off j a ha e
 ·rw [List.getElem?_set] at ha hb
  split at ha
  ·next e =>
   split at ha
   ·cases ha
    rw [if_neg (fun q=>hjm (e.symm.trans q))] at hb;exact fun k hk=>new m b k (fun q=>hjm (e.symm.trans q)) hb hk
   ·cases ha
  ·next e =>
   split at hb
   ·next e2 =>
    split at hb
    ·cases hb
     exact (show Aprt t' a from fun k hk=>new j a k e ha hk).symm
    ·cases hb
   ·exact h.apart j m a b hjm ha hb
theorem Gst.more (h:Gst w0 F T vs ts W) {t:Tng} (b:W.grownBy W' none) (ho:t.At w0.heap.size W') (hw:∀k,t.own=some k→W.heap.size≤k):Gst w0 F T vs (ts++[t]) W':=by
 have key:∀(j:Nat) (a:Tng),(ts++[t])[j]?=some a→ts[j]?=some a∨(j=ts.length∧a=t):=by
  intro j a ha;rw [List.getElem?_append] at ha;split at ha
  ·exact .inl ha
  ·next hlt =>
   right
   rw [List.getElem?_singleton] at ha;split at ha
   ·next e=>cases ha;exact⟨by omega,rfl⟩
   ·cases ha
 have bb:Below W.heap.size W W':=Jn2 b;have h':=h.on bb;refine⟨h'.box,h.low,fun j a ha=>?_,fun j a ha e=>?_,fun j m a c hjm ha hc=>?_,h'.base⟩
 ·rcases key j a ha with h1 | ⟨-,rfl⟩
  ·exact h'.own j a h1
  ·exact ho
 ·rcases key j a ha with h1 | ⟨-,rfl⟩
  ·exact h.off j a h1 e
  ·have:=hw F e;have:=h.lt;omega
 ·rcases key j a ha with h1 | ⟨e1,rfl⟩
  ·rcases key m c hc with h2 | ⟨-,rfl⟩
   ·exact h.apart j m a c hjm h1 h2
   ·exact fun k e1 e2=>by have:=hw k e2;have:=((h.own j a h1).lt k e1).2;omega
  ·rcases key m c hc with h2 | ⟨e2,-⟩
   ·exact fun k e1 e2=>by have:=hw k e1;have:=((h.own m c h2).lt k e2).2;omega
   ·omega
end
open Go.RowKit Go.Maps
def MapF (w:World) (b:Nat) (ls:List (List UInt8)):Prop:=∃(n:Nat) (D:Dm),n≤ls.length∧w.ownsMap prog 9 (plainElem prog 3) b n D∧IsMap D∧(∀x,has D (.string x)=decide (x∈ls))∧∀x z,x∈ls→D.atKey (.string x) z=.lit (.int .i64 (ls.idxOf x))
theorem MapF.made (w:World):MapF (w.alloc (.map #[] 0)) w.heap.size []:=⟨0,.map [],Nat.le_refl _,World.ownsMap_made _ _ _ _,isMap_empty,fun x=>by simp [has_eq],fun x z h=>by simp at h⟩
theorem MapF.lt {w:World} {b:Nat} {ls:List (List UInt8)} (h:MapF w b ls):b<w.heap.size:=by
 obtain⟨n,D,_,h1,_⟩:=h;exact h1.lt
theorem MapF.kept {w w':World} {b:Nat} {ls:List (List UInt8)} {row:Option Nat} (h:MapF w b ls) (hg:w.grownBy w' row) (hne:some b≠row):MapF w' b ls:=by
 obtain⟨n,D,h0,h1,h2⟩:=h;exact⟨n,D,h0,h1.kept hg hne,h2⟩
theorem MapF.look {w:World} {b:Nat} {ls:List (List UInt8)} (h:MapF w b ls) (s:ByteArray) (x:List UInt8) (hx:str x=s) (hs:x.length≤4611686018427387904) :
  (Instr.lookup 78 (.map (some b)) (.string s) true).run prog w=.ok (.tuple #[.int .i64 (if x∈ls then (ls.idxOf x:Int) else 0),.bool (decide (x∈ls))]) w:=by
 subst hx;obtain⟨n,D,_,h1,h2,h3,h4⟩:=h;have hk:=Jif (str x) (by rw [Jaf];exact hs);obtain⟨v,ps,hrun,hv⟩:=h1.look_ok Jf0 underlying78 (Jy5 w) (plainElem_int underlying3 (by decide)) hk;obtain⟨c,rfl,hc,_⟩:=plainElem_int_inv underlying3 hv;have hc:=congrArg Prod.fst hc;have e:(str x).data.toList=x:=rfl;rw [h3,e] at hrun;rw [hrun];have:c=if x∈ls then (ls.idxOf x:Int) else 0:=by
  by_cases hm:x∈ls
  ·rw [if_pos hm]
   rw [e,h4 _ _ hm] at hc;simpa using hc.symm
  ·rw [if_neg hm]
   rw [atKey_of_not_has (by rw [h3];exact decide_eq_false hm)] at hc;simpa using hc.symm
 rw [this]
theorem Jqf {ls:List (List UInt8)} {x y:List UInt8} (h:x∈ls):(ls++[y]).idxOf x=ls.idxOf x:=by
 rw [List.idxOf_append,if_pos h]
theorem MapF.put {w:World} {b:Nat} {ls:List (List UInt8)} (h:MapF w b ls) (s:ByteArray) (x:List UInt8) (hx:str x=s) (hs:x.length≤4611686018427387904) (hn:x ∉ ls) (hl:ls.length<1099511627776) :
  ∃w',(Instr.mapUpdate 78 (.map (some b)) (.string s) (.int .i64 (ls.length:Nat))).run prog w=.ok () w'∧MapF w' b (ls++[x])∧w.grownBy w' (some b):=by
 subst hx;obtain⟨n,D,h0,h1,h2,h3,h4⟩:=h;obtain⟨w',hrun,r1,r2⟩:=h1.update Jf0 underlying78 (by unfold maxLen;omega) (Jif (str x) (by rw [Jaf];exact hs)) (plainElem_int underlying3 (WalkArith.wf_i64 (show -9223372036854775808≤((ls.length:Nat):Int)∧((ls.length:Nat):Int)≤9223372036854775807 by omega)));have e:(str x).data.toList=x:=rfl;rw [e] at r1;refine⟨w',hrun,⟨n+1,_,by rw [List.length_append];simpa using h0,r1,h2.put _ _,fun y=>?_,fun y z hy=>?_⟩,r2⟩
 ·by_cases hy:y=x
  ·subst hy
   rw [has_put_same h2 (by simp [WideAt.IsKeyLit])];simp
  ·rw [has_put_other (by simpa using hy),h3]
   simp [hy]
 ·by_cases he:y=x
  ·subst he
   rw [atKey_put_same h2 (by simp [WideAt.IsKeyLit]),List.idxOf_append,if_neg hn];simp
  ·have hm:y∈ls:=by simpa [he] using hy
   rw [atKey_put_other (by simpa using he),h4 _ _ hm,Jqf hm]
theorem MapF.again {w:World} {b:Nat} {ls:List (List UInt8)} (h:MapF w b ls) {x:List UInt8} (hx:x∈ls):MapF w b (ls++[x]):=by
 obtain⟨n,D,h0,h1,h2,h3,h4⟩:=h;refine⟨n,D,by rw [List.length_append];omega,h1,h2,fun y=>?_,fun y z hy=>?_⟩
 ·rw [h3]
  by_cases hy:y=x
  ·subst hy;simp [hx]
  ·simp [hy]
 ·have hm:y∈ls:=by
   rcases List.mem_append.1 hy with h | h
   ·exact h
   ·simp at h;rw [h];exact hx
  rw [h4 _ _ hm,Jqf hm]
def asIs (v:Value):Option (DataW Value×List MemPlace):=some (.held v,[])
theorem Jw0 (w:World):(zeroValue 84).run prog w=.ok (.slice none 0 0) w:=by kernel_rfl
def MapL (w:World) (b n:Nat) (V:List UInt8→Value):Prop:=∃D:DataW Value,w.ownsMap prog 9 asIs b n D∧IsMap D∧∀x,D.atKey (.string x) (.held (.slice none 0 0))=.held (V x)
theorem MapL.made (w:World):MapL (w.alloc (.map #[] 0)) w.heap.size 0 fun _=>.slice none 0 0:=⟨.map [],World.ownsMap_made _ _ _ _,isMap_empty,fun _=>atKey_of_not_has (has_eq [] _) _⟩
theorem MapL.kept {w w':World} {b n:Nat} {V:List UInt8→Value} {row:Option Nat} (h:MapL w b n V) (hg:w.grownBy w' row) (hne:some b≠row):MapL w' b n V:=by
 obtain⟨D,h1,h2⟩:=h;exact⟨D,h1.kept hg hne,h2⟩
theorem MapL.look {w:World} {b n:Nat} {V:List UInt8→Value} (h:MapL w b n V) (s:ByteArray) (x:List UInt8) (hx:str x=s) (hs:x.length≤4611686018427387904):(Instr.lookup 76 (.map (some b)) (.string s) false).run prog w=.ok (V x) w:=by
 subst hx;obtain⟨D,g1,_,g3⟩:=h;obtain⟨v,ps,hrun,hv⟩:=g1.lookup Jf0 underlying76 (Jw0 w) (show asIs (.slice none 0 0)=some (.held (.slice none 0 0),[]) from rfl) (Jif (str x) (by rw [Jaf];exact hs));have e:(str x).data.toList=x:=rfl;rw [e,g3] at hv;have:v=V x:=by
  unfold asIs at hv;have:=congrArg (fun z=>z.map Prod.fst) hv;simp at this;exact this
 rw [hrun,this]
def putL (V:List UInt8→Value) (a:List UInt8) (v:Value):List UInt8→Value:=fun x=>if x=a then v else V x
theorem MapL.put {w:World} {b n:Nat} {V:List UInt8→Value} (hown:MapL w b n V) (hn:n<1099511627776) (s:ByteArray) (x:List UInt8) (hx:str x=s) (hs:x.length≤4611686018427387904) (val:Value) :
  ∃w',(Instr.mapUpdate 76 (.map (some b)) (.string s) val).run prog w=.ok () w'∧MapL w' b (n+1) (putL V x val)∧w.grownBy w' (some b):=by
 subst hx;obtain⟨D,g1,g2,g3⟩:=hown;obtain⟨w',hrun,r1,r2⟩:=g1.update Jf0 underlying76 (by unfold maxLen;omega) (Jif (str x) (by rw [Jaf];exact hs)) (show asIs val=some (.held val,[]) from rfl);have e:(str x).data.toList=x:=rfl;rw [e] at r1;refine⟨w',hrun,⟨_,r1,g2.put _ _,fun y=>?_⟩,r2⟩;unfold putL;by_cases hy:y=x
 ·subst hy
  rw [if_pos rfl,atKey_put_same g2 (by simp [WideAt.IsKeyLit])]
 ·rw [if_neg hy,atKey_put_other (by simpa using hy),g3]
def fe1 (e x:Int):Int:=if e=0 then x else e
theorem Jhs {e x:Int} (h:e≠0):fe1 e x=e:=if_neg h
theorem Jj6 {e x:Int} (h:e=0):fe1 e x=x:=if_pos h
theorem Jw1 {e:Int} {l:List Bs} {s:Bs} {k:Nat} (h:∀j,j<k→l[j]?≠some s) (hk:l[k]?=some s):fnd e l s=((k:Int),0):=by
 have hl:=(List.getElem?_eq_some_iff.1 hk).1;have:l.findIdx? (fun x=>decide (x=s))=some k:=by
  rw [List.findIdx?_eq_some_iff_getElem];refine⟨hl,by simpa using (List.getElem?_eq_some_iff.1 hk).2,fun j hj=>?_⟩;simp only [Bool.not_eq_true,decide_eq_false_iff_not];intro e;exact h j hj (by rw [List.getElem?_eq_getElem (Nat.lt_trans hj hl),e])
 unfold fnd;rw [this]
theorem Jj7 {e:Int} {l:List Bs} {s:Bs} (h:∀j,j<l.length→l[j]?≠some s):fnd e l s=(0,e):=by
 have:l.findIdx? (fun x=>decide (x=s))=none:=by
  rw [List.findIdx?_eq_none_iff];intro x hx;simp only [decide_eq_false_iff_not];intro e;obtain⟨j,hj⟩:=List.mem_iff_getElem?.1 hx;exact h j (List.getElem?_eq_some_iff.1 hj).1 (by rw [hj,e])
 unfold fnd;rw [this]
theorem Jcf (y:Int):fe1 y 0=y:=by unfold fe1;split <;> simp_all
theorem Jw2 (e y:Int) (l:List Bs) (s:Bs):(if decide ((fnd e l s).2=0)=true then y else fe1 y e)=fe1 y (fnd e l s).2:=by
 unfold fnd;cases l.findIdx? (fun x=>decide (x=s)) with
 | some i=>exact (Jcf y).symm
 | none =>
  show (if decide (e=0)=true then y else fe1 y e)=fe1 y e
  by_cases h:e=0
  ·subst h;rw [if_pos (by simp)];exact (Jcf y).symm
  ·rw [if_neg (by simpa using h)]
theorem Jj8 {a b:Bs} (h:str a=str b):a=b:=by
 have:=congrArg (fun b:ByteArray=>b.data.toList) h;simpa [str] using this
def LstO (F n:Nat) (W:World) (v:Value) (g:List Bs):Prop:=∃A c,v=.slice A g.length c∧g.length≤c∧c≤9223372036854775807∧(0<g.length→∃b o,A=some ⟨b,o,none⟩∧b<n∧b≠F∧∀(j:Nat) x,g[j]?=some x→W.cell? ⟨b,o+j,none⟩=some (.string (str x)))
structure Prd (F n:Nat) (vs:List Value) (v:Value) (g:List Bs) (e:Int) (W:World):Prop where
 box:W.heap[F]?=some (.cells vs.toArray 80 (0,0))
 rest:vs[0]?=some v
 err:vs[1]?=some (.int .i64 e)
 lst:LstO F n W v g
 size:n≤W.heap.size
def set2 (vs:List Value) (v:Value) (e:Int):List Value:=(vs.set 0 v).set 1 (.int .i64 e)
def Nx (F:Nat) (vs:List Value) (g:List Bs) (W0:World) (k:Nat) (e:Int) (W:World):Prop:=W0.grownBy W (some F)∧F<W0.heap.size∧∃v,Prd F W0.heap.size (set2 vs v e) v (g.drop k) e W
section
variable {F n:Nat} {vs:List Value} {v v':Value} {g:List Bs} {e x:Int} {W W' W0:World} {k:Nat}
theorem Jab {i:Nat} (h:2≤i):(set2 vs v e)[i]?=vs[i]?:=by
 unfold set2;rw [List.getElem?_set,if_neg (by omega),List.getElem?_set,if_neg (by omega)]
theorem Prd.lt (h:Prd F n vs v g e W):F<W.heap.size:=(Array.getElem?_eq_some_iff.1 h.box).1
theorem Prd.cell (h:Prd F n vs v g e W) {i:Nat} {u:Value} (hv:vs[i]?=some u):W.cell? ⟨F,i,none⟩=some u∧W.frozen? ⟨F,i,none⟩=false :=
 ⟨by rw [cell_of_row _ _ _ _ _ _ h.box];simpa using hv,frozen_of_row _ _ _ _ _ h.box⟩
theorem LstO.kept {q:Nat} (h:LstO F n W v g) (hn:n≤W.heap.size) (b:W.grownBy W' (some q)) (hq:q=F∨n≤q):LstO F n W' v g:=by
 obtain⟨A,c,e,h1,h2,h3⟩:=h;refine⟨A,c,e,h1,h2,fun h0=>?_⟩;obtain⟨bk,o,e1,h4,h5,h6⟩:=h3 h0;have hne:bk≠q:=hq.elim (fun r e=>h5 (e.trans r)) (fun r e=>Nat.lt_irrefl q (Nat.lt_of_lt_of_le (e ▸ h4) r));have hb:=b.block bk (Nat.lt_of_lt_of_le h4 hn) (fun e=>hne (Option.some.inj e));exact⟨bk,o,e1,h4,h5,fun j x hx=>by rw [←h6 j x hx];unfold World.cell?;rw [hb]⟩
def Jfn (F:Nat) (W W':World):Prop:=∀b o,b≠F→W.heap[b]?=some o→W'.heap[b]?=some o
theorem Jqg (h:W.grownBy W' (some F)):Jfn F W W':=fun b _ hb ho=>(h.block b (Array.getElem?_eq_some_iff.1 ho).1 (fun e=>hb (Option.some.inj e))).trans ho
theorem Nx.lt (h:Nx F vs g W0 k e W):F<W.heap.size:=Nat.lt_of_lt_of_le h.2.1 h.1.size
theorem Nx.on (h:Nx F vs g W0 k e W) (b:Below W.heap.size W W'):Nx F vs g W0 k e W':=by
 obtain⟨h1,h2,v,h3⟩:=h;exact⟨h1.trans (Jbm b _),h2,v,(b.block _ h3.lt).trans h3.box,h3.rest,h3.err,h3.lst.kept h3.size (Jbm b (some F)) (.inl rfl),Nat.le_trans h3.size b.size⟩
theorem Nx.off {q:Nat} (h:Nx F vs g W0 k e W) (b:W.grownBy W' (some q)) (hq:W0.heap.size≤q) (hF:q≠F):Nx F vs g W0 k e W':=by
 obtain⟨h1,h2,v,h3⟩:=h;exact⟨⟨b.os.trans h1.os,b.tape.trans h1.tape,b.output.trans h1.output,Nat.le_trans h1.size b.size,fun j hj hne=>(b.block j (Nat.lt_of_lt_of_le hj h1.size) (fun e=>by have:=Option.some.inj e;omega)).trans (h1.block j hj hne)⟩,h2,v,(b.block _ h3.lt (fun e=>hF (Option.some.inj e).symm)).trans h3.box,h3.rest,h3.err,h3.lst.kept h3.size b (.inr hq),Nat.le_trans h3.size b.size⟩
theorem Nx.cell (h:Nx F vs g W0 k e W) {i:Nat} {u:Value} (hi:2≤i) (hv:vs[i]?=some u):W.cell? ⟨F,i,none⟩=some u:=by
 obtain⟨-,-,v,h3⟩:=h;exact (h3.cell ((Jab hi).trans hv)).1
theorem Nx.err (h:Nx F vs g W0 k e W):W.cell? ⟨F,1,none⟩=some (.int .i64 e)∧W.frozen? ⟨F,1,none⟩=false:=by
 obtain⟨-,-,v,h3⟩:=h;exact h3.cell h3.err
theorem Nx.fail (h:Nx F vs g W0 k e W) (x:Int):Nx F vs g W0 k x (W.setCell ⟨F,1,none⟩ (.int .i64 x)):=by
 obtain⟨h1,h2,v,h3⟩:=h;have hg:=Jbi W F 1 (.int .i64 x);have hl:1<(set2 vs v e).length:=(List.getElem?_eq_some_iff.1 h3.err).1;have e1:(set2 vs v e).set 1 (.int .i64 x)=set2 vs v x:=by unfold set2;rw [List.set_set]
 refine⟨h1.trans hg,h2,v,?_,?_,?_,h3.lst.kept h3.size hg (.inl rfl),Nat.le_trans h3.size hg.size⟩
 ·rw [heap_setCell_same _ _ _ _ _ _ h3.box,List.setIfInBounds_toArray,e1]
 ·rw [←e1,List.getElem?_set,if_neg (by omega)];exact h3.rest
 ·rw [←e1,List.getElem?_set,if_pos rfl,if_pos hl]
theorem Nx.start (h:Prd F W.heap.size vs v g e W):Nx F vs g W 0 e W:=by
 have e1:set2 vs v e=vs:=by
  unfold set2;obtain⟨hl,hv⟩:=List.getElem?_eq_some_iff.1 h.rest;rw [←hv,List.set_getElem_self hl];obtain⟨hl,hv⟩:=List.getElem?_eq_some_iff.1 h.err;rw [←hv,List.set_getElem_self hl]
 exact⟨Jbm (Below.refl _ _) _,h.lt,v,by rw [e1];exact h⟩
end
def Rdr (F:Nat) (vs:List Value) (g:List Bs) (W0:World) (f:FuncId) (x:Array Value) (k:Nat) (e:Int) (u:Value) (k':Nat) (e':Int):Prop :=
 ∀W,Nx F vs g W0 k e W→Calls prog f x W fun r W'=>r=.returned u∧Nx F vs g W0 k' e' W'∧Jfn F W W'
section
variable {F:Nat} {vs:List Value} {g:List Bs} {W0:World}
theorem Jc4 (ok:Bool) (x:Int) (k:Nat) (e:Int):Rdr F vs g W0 95 #[.pointer (some ⟨F,0,none⟩),.bool ok,.int .i64 x] k e (.tuple #[]) k (if ok then e else fe1 e x):=by
 intro W h;obtain⟨c0,c1⟩:=h.err;have H:=Lib.hid h;cases ok with
 | true =>
  clear h;go_enter func95,ntmps95
  go_wp2_with fail
  go_end0;exact⟨rfl,H.out,fun _ _ _ ho=>ho⟩
 | false =>
  by_cases he:e=0
  ·have P:=Lib.hid (h.fail x)
   have Q:Hid (fe1 e x=x):=Lib.hid (Jj6 he);have ge:(e==0)=true:=Jaq he;clear h he;go_enter func95,ntmps95
   go_wp2_with fail
   go_end0;exact⟨rfl,by rw [Q.out];exact P.out,Jqg (Jbi _ _ _ _)⟩
  ·have Q:Hid (fe1 e x=e):=Lib.hid (Jhs he)
   have ge:(e==0)=false:=Jac he;clear h he;go_enter func95,ntmps95
   go_wp2_with fail
   go_end0;exact⟨rfl,by rw [Q.out];exact H.out,fun _ _ _ ho=>ho⟩
theorem Jfn.trans {W1 W2 W3:World} (a:Jfn F W1 W2) (b:Jfn F W2 W3):Jfn F W1 W3:=fun k o hk ho=>b k o hk (a k o hk ho)
theorem Jem (n x:Int) (k:Nat) (e:Int):Rdr F vs g W0 249 #[.pointer (some ⟨F,0,none⟩),.int .i64 n,.int .i64 x] k e (.int .i64 n) k (fe1 e x):=by
 intro W h;have C:=Lib.hid (Jc4 (F:=F) (vs:=vs) (g:=g) (W0:=W0) (x==0) x k e W h);have E:Hid ((if (x==0)=true then e else fe1 e x)=fe1 e x):=Lib.hid (by
  by_cases hx:x=0
  ·subst hx;rw [if_pos (by simp)];exact (Jcf e).symm
  ·rw [if_neg (by simpa using hx)])
 clear h;go_enter func249,ntmps249
 go_wp2_with fail
 refine C.out.mono ?_;rintro r w1 ⟨rfl,n1,s1⟩;have N1:=Lib.hid n1;have S1:=Lib.hid s1;clear n1 s1 C;go_wp2_with fail
 go_ret;exact⟨rfl,by rw [←E.out];exact N1.out,S1.out⟩
theorem J1j {k:Nat} {x:Bs} {q:List Bs} (h:g.drop k=x::q):g.getD k []=x∧g.drop (k+1)=q:=by
 refine⟨?_,?_⟩
 ·rw [List.getD_eq_getElem?_getD]
  have:=congrArg (fun l:List Bs=>l[0]?) h;simp at this;rw [this];rfl
 ·rw [←List.drop_drop,h];rfl
theorem Jw3 {k:Nat} (h:g.drop k=[]):g.getD k []=[]∧g.drop (k+1)=[]:=by
 have hl:g.length≤k:=by simpa using h
 refine⟨?_,List.drop_of_length_le (by omega)⟩;rw [List.getD_eq_getElem?_getD,List.getElem?_eq_none hl];rfl
theorem Jbj (k:Nat) (e:Int):Rdr F vs g W0 43 #[.pointer (some ⟨F,0,none⟩)] k e (.string (str (g.getD k []))) (k+1) e:=by
 intro W h;obtain⟨h1,h2,v,h3⟩:=h;obtain⟨c0,c1⟩:=h3.cell h3.rest;have H1:=Lib.hid h1;have H2:=Lib.hid h2;have H3:=Lib.hid h3;obtain⟨q,hq⟩:∃q,g.drop k=q:=⟨_,rfl⟩;have HQ:=Lib.hid hq;obtain⟨A,c,rfl,l1,l2,l3⟩:=h3.lst;cases q with
 | nil =>
  obtain⟨d1,d2⟩:=Jw3 hq;rw [d1];have D2:=Lib.hid d2;have hl:(g.drop k).length=0:=by rw [hq];rfl
  rw [hl] at c0;clear h1 h2 h3 l1 l2 l3 hq d1 d2;go_enter func43,ntmps43
  go_wp2_with fail
  go_ret;exact⟨rfl,⟨H1.out,H2.out,_,by rw [D2.out,←HQ.out];exact H3.out⟩,fun _ _ _ ho=>ho⟩
 | cons x q =>
  obtain⟨d1,d2⟩:=J1j hq;rw [d1];have D2:=Lib.hid d2;have hl:(g.drop k).length=q.length+1:=by rw [hq];rfl
  obtain⟨b,o,rfl,b1,b2,b3⟩:=l3 (by omega);rw [hl] at c0 l1;have m:W.cell? ⟨b,o,none⟩=some (.string (str x)):=b3 0 x (by rw [hq];rfl);obtain⟨A,hA⟩:∃A,(if c=1 then some (⟨b,o,none⟩:Addr) else some ⟨b,o+1,none⟩)=A:=⟨_,rfl⟩;have L:Hid (LstO F W0.heap.size W (.slice A q.length (c - 1)) q):=Lib.hid ⟨_,_,rfl,by omega,by omega,fun h0=>⟨b,o+1,by rw [←hA,if_neg (by omega)],b1,b2,fun j y hy=>by rw [Nat.add_assoc,Nat.add_comm 1 j];exact b3 (j+1) y (by rw [hq];exact hy)⟩⟩;have r1:∀W,(Instr.slice 66 (.slice (some ⟨b,o,none⟩) (q.length+1) c) (some (.int .i64 1)) none none).run prog W=.ok (.slice A q.length (c - 1)) W:=fun W=>by
   have e1:prog.elem 66=9:=by simp [Program.elem,underlying66]
   have s1:(Go.sizeOf 9).run prog W=.ok 1 W:=by kernel_rfl
   have:=run_slice_l W 66 (some ⟨b,o,none⟩) (q.length+1) c (by rw [e1];exact underlying66) .i64 1 (by omega) (by omega);rw [this,e1,s1];show Result.ok (sliced _ 1 _ _ 1) W=_
   unfold sliced;rw [←hA];have e3:(⟨b,o,none⟩:Addr).add (1*1)=⟨b,o+1,none⟩:=Addr.add_lit _ _ _;rw [Option.map_some,e3,Nat.add_sub_cancel]
  have hlen:0<q.length+1:=by omega
  have z0:(((q.length+1:Nat):Int)==0)=false:=Jac (by omega);obtain⟨t,ht⟩:∃t,str x=t:=⟨_,rfl⟩;rw [ht] at m ⊢;have PP:Hid (Nx F vs g W0 (k+1) e (W.setCell ⟨F,0,none⟩ (.slice A q.length (c - 1)))):=Lib.hid (by
   have hg:=Jbi W F 0 (.slice A q.length (c - 1));refine⟨H1.out.trans hg,H2.out,.slice A q.length (c - 1),?_,?_,?_,?_,Nat.le_trans H3.out.size hg.size⟩
   ·rw [heap_setCell_same _ _ _ _ _ _ H3.out.box,List.setIfInBounds_toArray]
    congr 2
    unfold set2;match vs with
    | []=>rfl
    | [_]=>rfl
    | _::_::_=>rfl
   ·have:=(List.getElem?_eq_some_iff.1 H3.out.rest).1
    unfold set2 at this ⊢;simp only [List.length_set] at this;rw [List.getElem?_set,if_neg (by omega),List.getElem?_set,if_pos rfl,if_pos this]
   ·have:=(List.getElem?_eq_some_iff.1 H3.out.err).1
    unfold set2 at this ⊢;simp only [List.length_set] at this;rw [List.getElem?_set,if_pos rfl,if_pos (by rw [List.length_set];exact this)]
   ·rw [D2.out];exact L.out.kept H3.out.size hg (.inl rfl))
  have SS:Hid (Jfn F W (W.setCell ⟨F,0,none⟩ (.slice A q.length (c - 1)))):=Lib.hid (Jqg (Jbi _ _ _ _));clear h1 h2 h3 l1 l2 l3 hq d1 d2 b3 hl;go_enter func43,ntmps43
  go_wp2_with fail
  go_ret;exact⟨rfl,PP.out,SS.out⟩
end
theorem Nx.blw {F:Nat} {vs:List Value} {g:List Bs} {W0 W W':World} {k:Nat} {e:Int} (h:Nx F vs g W0 k e W) (b:Below W.heap.size W W'):Nx F vs g W0 k e W'∧Jfn F W W':=⟨h.on b,fun i _ _ ho=>(b.block i (Array.getElem?_eq_some_iff.1 ho).1).trans ho⟩
section
variable {F:Nat} {vs:List Value} {g:List Bs} {W0:World}
theorem Jen (F_:Fm) (k:Nat) (e:Int) (P:∀w:World,W0.grownBy w (some F)→Calls prog 250 #[.string (str (g.getD k []))] w fun r w'=>r=.returned (.tuple #[.int .i64 (F_.num (g.getD k [])).1,.int .i64 (F_.num (g.getD k [])).2])∧Below w.heap.size w w'):Rdr F vs g W0 175 #[.pointer (some ⟨F,0,none⟩)] k e (.int .i64 (F_.num (g.getD k [])).1) (k+1) (fe1 e (F_.num (g.getD k [])).2):=by
 intro W h;have C1:=Lib.hid (Jbj (F:=F) (vs:=vs) (g:=g) (W0:=W0) k e W h);have C2:=Lib.hid P;generalize str (g.getD k [])=s at C1 C2;generalize F_.num (g.getD k [])=q at C2 ⊢;have C3:=Lib.hid (fun W'=>Jem (F:=F) (vs:=vs) (g:=g) (W0:=W0) q.1 q.2 (k+1) e W');clear h P;go_enter func175,ntmps175
 go_wp2_with fail
 refine C1.out.mono ?_;rintro r w1 ⟨rfl,n1,s1⟩;have D:=Lib.hid (C2.out w1 n1.1);have N1:=Lib.hid n1;have S1:=Lib.hid s1;clear n1 s1 C1;go_wp2_with fail
 refine D.out.mono ?_;rintro r w2 ⟨rfl,b2⟩;have N2:=Lib.hid (N1.out.blw b2);have D3:=Lib.hid (C3.out w2 N2.out.1);clear b2 D C3;go_wp2_with fail
 refine D3.out.mono ?_;rintro r w3 ⟨rfl,n3,s3⟩;have N3:=Lib.hid n3;have S3:=Lib.hid ((S1.out.trans N2.out.2).trans s3);clear n3 s3 D3;go_wp2_with fail
 go_ret;exact⟨rfl,N3.out,S3.out⟩
theorem Jg8 (F_:Fm) (k:Nat) (e:Int) (P:∀w:World,W0.grownBy w (some F)→Calls prog 254 #[.string (str (g.getD k []))] w fun r w'=>r=.returned (.tuple #[.int .i64 (F_.tim (g.getD k [])).1,.int .i64 (F_.tim (g.getD k [])).2])∧Below w.heap.size w w'):Rdr F vs g W0 183 #[.pointer (some ⟨F,0,none⟩)] k e (.int .i64 (F_.tim (g.getD k [])).1) (k+1) (fe1 e (F_.tim (g.getD k [])).2):=by
 intro W h;have C1:=Lib.hid (Jbj (F:=F) (vs:=vs) (g:=g) (W0:=W0) k e W h);have C2:=Lib.hid P;generalize str (g.getD k [])=s at C1 C2;generalize F_.tim (g.getD k [])=q at C2 ⊢;have C3:=Lib.hid (fun W'=>Jem (F:=F) (vs:=vs) (g:=g) (W0:=W0) q.1 q.2 (k+1) e W');clear h P;go_enter func183,ntmps183
 go_wp2_with fail
 refine C1.out.mono ?_;rintro r w1 ⟨rfl,n1,s1⟩;have D:=Lib.hid (C2.out w1 n1.1);have N1:=Lib.hid n1;have S1:=Lib.hid s1;clear n1 s1 C1;go_wp2_with fail
 refine D.out.mono ?_;rintro r w2 ⟨rfl,b2⟩;have N2:=Lib.hid (N1.out.blw b2);have D3:=Lib.hid (C3.out w2 N2.out.1);clear b2 D C3;go_wp2_with fail
 refine D3.out.mono ?_;rintro r w3 ⟨rfl,n3,s3⟩;have N3:=Lib.hid n3;have S3:=Lib.hid ((S1.out.trans N2.out.2).trans s3);clear n3 s3 D3;go_wp2_with fail
 go_ret;exact⟨rfl,N3.out,S3.out⟩
theorem Jdc (F_:Fm) (k:Nat) (e:Int) (P:∀w:World,W0.grownBy w (some F)→Calls prog 255 #[.string (str (g.getD k []))] w fun r w'=>r=.returned (.tuple #[.int .i64 (F_.dur (g.getD k [])).1,.int .i64 (F_.dur (g.getD k [])).2])∧Below w.heap.size w w'):Rdr F vs g W0 185 #[.pointer (some ⟨F,0,none⟩)] k e (.int .i64 (F_.dur (g.getD k [])).1) (k+1) (fe1 e (F_.dur (g.getD k [])).2):=by
 intro W h;have C1:=Lib.hid (Jbj (F:=F) (vs:=vs) (g:=g) (W0:=W0) k e W h);have C2:=Lib.hid P;generalize str (g.getD k [])=s at C1 C2;generalize F_.dur (g.getD k [])=q at C2 ⊢;have C3:=Lib.hid (fun W'=>Jem (F:=F) (vs:=vs) (g:=g) (W0:=W0) q.1 q.2 (k+1) e W');clear h P;go_enter func185,ntmps185
 go_wp2_with fail
 refine C1.out.mono ?_;rintro r w1 ⟨rfl,n1,s1⟩;have D:=Lib.hid (C2.out w1 n1.1);have N1:=Lib.hid n1;have S1:=Lib.hid s1;clear n1 s1 C1;go_wp2_with fail
 refine D.out.mono ?_;rintro r w2 ⟨rfl,b2⟩;have N2:=Lib.hid (N1.out.blw b2);have D3:=Lib.hid (C3.out w2 N2.out.1);clear b2 D C3;go_wp2_with fail
 refine D3.out.mono ?_;rintro r w3 ⟨rfl,n3,s3⟩;have N3:=Lib.hid n3;have S3:=Lib.hid ((S1.out.trans N2.out.2).trans s3);clear n3 s3 D3;go_wp2_with fail
 go_ret;exact⟨rfl,N3.out,S3.out⟩
theorem Jn3 (F_:Fm) (k:Nat) (e:Int) (P:∀w:World,W0.grownBy w (some F)→Calls prog 253 #[.string (str (g.getD k []))] w fun r w'=>r=.returned (.tuple #[.int .i64 (F_.day (g.getD k [])).1,.int .i64 (F_.day (g.getD k [])).2])∧Below w.heap.size w w'):Rdr F vs g W0 180 #[.pointer (some ⟨F,0,none⟩)] k e (.int .i64 (F_.day (g.getD k [])).1) (k+1) (fe1 e (F_.day (g.getD k [])).2):=by
 intro W h;have C1:=Lib.hid (Jbj (F:=F) (vs:=vs) (g:=g) (W0:=W0) k e W h);have C2:=Lib.hid P;generalize str (g.getD k [])=s at C1 C2;generalize F_.day (g.getD k [])=q at C2 ⊢;have C3:=Lib.hid (fun W'=>Jem (F:=F) (vs:=vs) (g:=g) (W0:=W0) q.1 q.2 (k+1) e W');clear h P;go_enter func180,ntmps180
 go_wp2_with fail
 refine C1.out.mono ?_;rintro r w1 ⟨rfl,n1,s1⟩;have D:=Lib.hid (C2.out w1 n1.1);have N1:=Lib.hid n1;have S1:=Lib.hid s1;clear n1 s1 C1;go_wp2_with fail
 refine D.out.mono ?_;rintro r w2 ⟨rfl,b2⟩;have N2:=Lib.hid (N1.out.blw b2);have D3:=Lib.hid (C3.out w2 N2.out.1);clear b2 D C3;go_wp2_with fail
 refine D3.out.mono ?_;rintro r w3 ⟨rfl,n3,s3⟩;have N3:=Lib.hid n3;have S3:=Lib.hid ((S1.out.trans N2.out.2).trans s3);clear n3 s3 D3;go_wp2_with fail
 go_ret;exact⟨rfl,N3.out,S3.out⟩
theorem Jht (F_:Fm) (k:Nat) (e:Int) (P:∀w:World,W0.grownBy w (some F)→Calls prog 256 #[.string (str (g.getD k []))] w fun r w'=>r=.returned (.tuple #[.int .i64 (F_.prc (g.getD k [])).1,.int .i64 (F_.prc (g.getD k [])).2])∧Below w.heap.size w w'):Rdr F vs g W0 186 #[.pointer (some ⟨F,0,none⟩)] k e (.int .i64 (F_.prc (g.getD k [])).1) (k+1) (fe1 e (F_.prc (g.getD k [])).2):=by
 intro W h;have C1:=Lib.hid (Jbj (F:=F) (vs:=vs) (g:=g) (W0:=W0) k e W h);have C2:=Lib.hid P;generalize str (g.getD k [])=s at C1 C2;generalize F_.prc (g.getD k [])=q at C2 ⊢;have C3:=Lib.hid (fun W'=>Jem (F:=F) (vs:=vs) (g:=g) (W0:=W0) q.1 q.2 (k+1) e W');clear h P;go_enter func186,ntmps186
 go_wp2_with fail
 refine C1.out.mono ?_;rintro r w1 ⟨rfl,n1,s1⟩;have D:=Lib.hid (C2.out w1 n1.1);have N1:=Lib.hid n1;have S1:=Lib.hid s1;clear n1 s1 C1;go_wp2_with fail
 refine D.out.mono ?_;rintro r w2 ⟨rfl,b2⟩;have N2:=Lib.hid (N1.out.blw b2);have D3:=Lib.hid (C3.out w2 N2.out.1);clear b2 D C3;go_wp2_with fail
 refine D3.out.mono ?_;rintro r w3 ⟨rfl,n3,s3⟩;have N3:=Lib.hid n3;have S3:=Lib.hid ((S1.out.trans N2.out.2).trans s3);clear n3 s3 D3;go_wp2_with fail
 go_ret;exact⟨rfl,N3.out,S3.out⟩
theorem Jw4 (F_:Fm) (k:Nat) (e:Int) (P:∀w:World,W0.grownBy w (some F)→Calls prog 257 #[.string (str (g.getD k []))] w fun r w'=>r=.returned (.tuple #[.int .i64 (F_.mds (g.getD k [])).1,.int .i64 (F_.mds (g.getD k [])).2])∧Below w.heap.size w w'):Rdr F vs g W0 187 #[.pointer (some ⟨F,0,none⟩)] k e (.int .i64 (F_.mds (g.getD k [])).1) (k+1) (fe1 e (F_.mds (g.getD k [])).2):=by
 intro W h;have C1:=Lib.hid (Jbj (F:=F) (vs:=vs) (g:=g) (W0:=W0) k e W h);have C2:=Lib.hid P;generalize str (g.getD k [])=s at C1 C2;generalize F_.mds (g.getD k [])=q at C2 ⊢;have C3:=Lib.hid (fun W'=>Jem (F:=F) (vs:=vs) (g:=g) (W0:=W0) q.1 q.2 (k+1) e W');clear h P;go_enter func187,ntmps187
 go_wp2_with fail
 refine C1.out.mono ?_;rintro r w1 ⟨rfl,n1,s1⟩;have D:=Lib.hid (C2.out w1 n1.1);have N1:=Lib.hid n1;have S1:=Lib.hid s1;clear n1 s1 C1;go_wp2_with fail
 refine D.out.mono ?_;rintro r w2 ⟨rfl,b2⟩;have N2:=Lib.hid (N1.out.blw b2);have D3:=Lib.hid (C3.out w2 N2.out.1);clear b2 D C3;go_wp2_with fail
 refine D3.out.mono ?_;rintro r w3 ⟨rfl,n3,s3⟩;have N3:=Lib.hid n3;have S3:=Lib.hid ((S1.out.trans N2.out.2).trans s3);clear n3 s3 D3;go_wp2_with fail
 go_ret;exact⟨rfl,N3.out,S3.out⟩
theorem J1k (k:Nat) (e:Int) (P:∀w:World,W0.grownBy w (some F)→Calls prog 252 #[.string (str (g.getD k []))] w fun r w'=>r=.returned (.tuple #[.int .i64 (fnd 3 nmL (g.getD k [])).1,.bool (decide ((fnd 3 nmL (g.getD k [])).2=0))])∧Below w.heap.size w w'):Rdr F vs g W0 178 #[.pointer (some ⟨F,0,none⟩)] k e (.int .i64 (fnd 3 nmL (g.getD k [])).1) (k+1) (fe1 e (fnd 3 nmL (g.getD k [])).2):=by
 intro W h;have C1:=Lib.hid (Jbj (F:=F) (vs:=vs) (g:=g) (W0:=W0) k e W h);have C2:=Lib.hid P;have E:Hid ((if decide ((fnd 3 nmL (g.getD k [])).2=0)=true then e else fe1 e 3)=fe1 e (fnd 3 nmL (g.getD k [])).2):=Lib.hid (Jw2 _ _ _ _);generalize str (g.getD k [])=s at C1 C2;generalize fnd 3 nmL (g.getD k [])=q at C2 E ⊢;obtain⟨b,hb⟩:∃b,decide (q.2=0)=b:=⟨_,rfl⟩;rw [hb] at C2 E;have C3:=Lib.hid (fun W'=>Jc4 (F:=F) (vs:=vs) (g:=g) (W0:=W0) b 3 (k+1) e W');clear h P hb;go_enter func178,ntmps178
 go_wp2_with fail
 refine C1.out.mono ?_;rintro r w1 ⟨rfl,n1,s1⟩;have D:=Lib.hid (C2.out w1 n1.1);have N1:=Lib.hid n1;have S1:=Lib.hid s1;clear n1 s1 C1;go_wp2_with fail
 refine D.out.mono ?_;rintro r w2 ⟨rfl,b2⟩;have N2:=Lib.hid (N1.out.blw b2);have D3:=Lib.hid (C3.out w2 N2.out.1);clear b2 D C3;go_wp2_with fail
 refine D3.out.mono ?_;rintro r w3 ⟨rfl,n3,s3⟩;have N3:=Lib.hid n3;have S3:=Lib.hid ((S1.out.trans N2.out.2).trans s3);clear n3 s3 D3;go_wp2_with fail
 go_ret;exact⟨rfl,by rw [←E.out];exact N3.out,S3.out⟩
theorem Jbg (n k:Nat) (e:Int) (hg:g.length≤1000000):Rdr F vs g W0 174 #[.pointer (some ⟨F,0,none⟩),.int .i64 (n:Int)] k e (.tuple #[]) k (fe1 e (if (g.drop k).length=n then 0 else 1)):=by
 intro W h;have h':=h;obtain⟨-,-,v,h3⟩:=h';obtain⟨c0,c1⟩:=h3.cell h3.rest;obtain⟨A,c,rfl,l1,l2,-⟩:=h3.lst;have C:=Lib.hid (Jc4 (F:=F) (vs:=vs) (g:=g) (W0:=W0) (decide ((g.drop k).length=n)) 1 k e W h);have E:Hid ((if decide ((g.drop k).length=n)=true then e else fe1 e 1)=fe1 e (if (g.drop k).length=n then 0 else 1)):=Lib.hid (by
  by_cases hx:(g.drop k).length=n
  ·rw [if_pos hx,if_pos (decide_eq_true hx)];unfold fe1;split <;> simp_all
  ·rw [if_neg hx,if_neg (by simpa using hx)])
 have hd:((((g.drop k).length:Nat):Int)==(n:Int))=decide ((g.drop k).length=n):=by
  by_cases hx:(g.drop k).length=n
  ·rw [decide_eq_true hx,hx];exact Jaq rfl
  ·rw [decide_eq_false hx];exact Jac (by omega)
 generalize decide ((g.drop k).length=n)=b at C E hd;generalize (if (g.drop k).length=n then (0:Int) else 1)=y at E ⊢;have hl:(g.drop k).length≤1000000:=by rw [List.length_drop];omega
 generalize (g.drop k).length=m at *;clear h3 l1;go_enter func174,ntmps174
 go_wp2_with fail
 refine C.out.mono ?_;rintro r w1 ⟨rfl,n1,s1⟩;have N1:=Lib.hid n1;have S1:=Lib.hid s1;clear n1 s1 C;go_wp2_with fail
 go_end0;exact⟨rfl,by rw [←E.out];exact N1.out,S1.out⟩
theorem first_any (a b:Bs) (hab:a≠b) (k:Nat) (e:Int):Rdr F vs g W0 251 #[.pointer (some ⟨F,0,none⟩),.string (str a),.string (str b)] k e (.bool (decide ((fnd 3 [b,a] (g.getD k [])).1=1))) (k+1) (fe1 e (fnd 3 [b,a] (g.getD k [])).2):=by
 intro W h;have C1:=Lib.hid (Jbj (F:=F) (vs:=vs) (g:=g) (W0:=W0) k e W h);obtain⟨t,ht⟩:∃t,g.getD k []=t:=⟨_,rfl⟩;rw [ht] at C1 ⊢;have go:∀(p q:Bool) (r:Int),((str t).toList==(str a).toList)=p→(p=false→((str t).toList==(str b).toList)=q)→decide ((fnd 3 [b,a] t).1=1)=p→(if (p || q) then e else fe1 e 3)=fe1 e r→(fnd 3 [b,a] t).2=r →
   Calls prog 251 #[.pointer (some ⟨F,0,none⟩),.string (str a),.string (str b)] W fun r W'=>r=.returned (.bool (decide ((fnd 3 [b,a] t).1=1)))∧Nx F vs g W0 (k+1) (fe1 e (fnd 3 [b,a] t).2) W'∧Jfn F W W':=by
  intro p q r hp hq hv hr hz;rw [hv,hz];have E:=Lib.hid hr;clear hv hr hz;generalize str t=s at C1 hp hq;generalize str a=sa at hp ⊢;generalize str b=sb at hq ⊢;cases p with
  | true =>
   have C3:=Lib.hid (fun W'=>Jc4 (F:=F) (vs:=vs) (g:=g) (W0:=W0) true 3 (k+1) e W');clear h hq ht;go_enter func251,ntmps251
   go_wp2_with fail
   refine C1.out.mono ?_;rintro r w1 ⟨rfl,n1,s1⟩;have D3:=Lib.hid (C3.out w1 n1);have S1:=Lib.hid s1;clear n1 s1 C1 C3;go_wp2_with fail
   refine D3.out.mono ?_;rintro r w3 ⟨rfl,n3,s3⟩;have N3:=Lib.hid n3;have S3:=Lib.hid (S1.out.trans s3);clear n3 s3 D3;go_wp2_with fail
   go_ret;exact⟨rfl,by rw [←E.out];exact N3.out,S3.out⟩
  | false =>
   have hq:=hq rfl;have C3:=Lib.hid (fun W'=>Jc4 (F:=F) (vs:=vs) (g:=g) (W0:=W0) q 3 (k+1) e W');clear h ht;go_enter func251,ntmps251
   go_wp2_with fail
   refine C1.out.mono ?_;rintro r w1 ⟨rfl,n1,s1⟩;have D3:=Lib.hid (C3.out w1 n1);have S1:=Lib.hid s1;clear n1 s1 C1 C3;go_wp2_with fail
   refine D3.out.mono ?_;rintro r w3 ⟨rfl,n3,s3⟩;have N3:=Lib.hid n3;have S3:=Lib.hid (S1.out.trans s3);clear n3 s3 D3;go_wp2_with fail
   go_ret;exact⟨rfl,by rw [←E.out];exact N3.out,S3.out⟩
 by_cases h1:t=a
 ·refine go true false 0 (Jc9 (by rw [h1])) (fun h=>by cases h) ?_ (by rw [Jcf];rfl) ?_
  all_goals rw [Jw1 (k:=1) (fun j hj=>by (have:j=0:=by omega);subst this;simp only [List.getElem?_cons_zero,ne_eq,Option.some.injEq];exact fun q=>hab (h1.symm.trans q.symm)) (by simp [h1])]
  ·rfl
 ·have n1:=Jc8 (a:=str t) (b:=str a) (fun q=>h1 (Jj8 q))
  by_cases h2:t=b
  ·refine go false true 0 n1 (fun _=>Jc9 (by rw [h2])) ?_ (by rw [Jcf];rfl) ?_
   all_goals rw [Jw1 (k:=0) (fun j hj=>by omega) (by simp [h2])]
   ·rfl
  ·refine go false false 3 n1 (fun _=>Jc8 (fun q=>h2 (Jj8 q))) ?_ (by simp) ?_
   all_goals rw [Jj7 (fun j hj=>by
    match j,hj with
    | 0,_=>simpa using fun q=>h2 q.symm
    | 1,_=>simpa using fun q=>h1 q.symm
    | j+2,hj=>simp at hj;omega)]
   ·rfl
theorem Jg9 (k:Nat) (e:Int):Rdr F vs g W0 176 #[.pointer (some ⟨F,0,none⟩)] k e (.bool (flg (g.getD k [])).1) (k+1) (fe1 e (flg (g.getD k [])).2):=by
 intro W h;have C1:=Lib.hid (first_any (F:=F) (vs:=vs) (g:=g) (W0:=W0) wYes wNo (by decide) k e W h);clear h;go_enter func176,ntmps176
 go_wp2_with fail
 refine C1.out.mono ?_;rintro r w1 ⟨rfl,n1,s1⟩;have N1:=Lib.hid n1;have S1:=Lib.hid s1;clear n1 s1 C1;go_wp2_with fail
 go_ret;exact⟨rfl,N1.out,S1.out⟩
theorem J7o (k:Nat) (e:Int):Rdr F vs g W0 182 #[.pointer (some ⟨F,0,none⟩)] k e (.bool (decide ((fnd 3 [wRem,wAdd] (g.getD k [])).1=1))) (k+1) (fe1 e (fnd 3 [wRem,wAdd] (g.getD k [])).2):=by
 intro W h;have C1:=Lib.hid (first_any (F:=F) (vs:=vs) (g:=g) (W0:=W0) wAdd wRem (by decide) k e W h);clear h;go_enter func182,ntmps182
 go_wp2_with fail
 refine C1.out.mono ?_;rintro r w1 ⟨rfl,n1,s1⟩;have N1:=Lib.hid n1;have S1:=Lib.hid s1;clear n1 s1 C1;go_wp2_with fail
 go_ret;exact⟨rfl,N1.out,S1.out⟩
end
end
end Go.Proofs.YtpifdbphmnifdaaGreatDoor
