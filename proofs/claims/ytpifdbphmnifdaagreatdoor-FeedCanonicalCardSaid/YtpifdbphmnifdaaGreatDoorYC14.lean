/-
  Facts. Condition: each theorem's own.
-/
import Derived.Deep.RegionHeld
import Derived.Laws.Tables
import Derived.Test.YtpifdbphmnifdaaGreatDoorYC13
set_option maxRecDepth 100000
set_option maxHeartbeats 8000000
section
variable {p:Prop}
theorem Wm (h:p:=by rintro r w3 ⟨rfl,n3,s3⟩;have N3:=Pe n3;have S3:=Pe ((S1.out.trans N2.out.2).trans s3);clear n3 s3 D3;go_wp2_with fail;go_ret;exact⟨rfl,N3.out,S3.out⟩):p:=h
theorem Wn (h:p:=by rintro r w3 ⟨rfl,n3,s3⟩;have N3:=Pe n3;have S3:=Pe (S1.out.trans s3);clear n3 s3 D3;go_wp2_with fail;go_ret;exact⟨rfl,by rw [←E.out];exact N3.out,S3.out⟩):p:=h
theorem Wo (h:p:=by rw [Jcu,h1];exact hr):p:=h
theorem Wp (h:p:=by rintro r w1 ⟨rfl,n1,s1⟩;have N1:=Pe n1;have S1:=Pe s1;clear n1 s1 C1;go_wp2_with fail;go_ret;exact⟨rfl,N1.out,S1.out⟩):p:=h
theorem Wq (h:p:=by rw [Jao];exact hs):p:=h
theorem Wr (h:p:=by have:=congrArg (fun b:ByteArray=>b.data.toList) h;simpa [str] using this):p:=h
theorem Ws (h:p:=by rw [Jcv];exact hW h1 h2):p:=h
end
open Go.Proofs.Tryz
namespace Go.Proofs.YtpifdbphmnifdaaGreatDoor
section
open Go.RowKit Go.Maps
def MapF (w:World) (b:Nat) (ls:List (List UInt8)):Prop:=∃(n:Nat) (D:Dm),n≤ls.length∧w.ownsMap prog 9 (plainElem prog 3) b n D∧IsMap D∧(∀x,has D (.string x)=decide (x∈ls))∧∀x z,x∈ls→D.atKey (.string x) z=.lit (.int .i64 (ls.idxOf x))
theorem MapF.made (w:World):MapF (w.alloc (.map #[] 0)) w.heap.size []:=⟨0,.map [],Nat.le_refl _,World.ownsMap_made _ _ _ _,isMap_empty,fun x=>Qe,fun x z h=>Qt⟩
theorem MapF.lt {w:World} {b:Nat} {ls:List (List UInt8)} (h:MapF w b ls):b<w.heap.size:=by
 obtain⟨n,D,_,h1,_⟩:=h;exact h1.lt
theorem MapF.kept {w w':World} {b:Nat} {ls:List (List UInt8)} {row:Option Nat} (h:MapF w b ls) (hg:w.grownBy w' row) (hne:some b≠row):MapF w' b ls:=by
 obtain⟨n,D,h0,h1,h2⟩:=h;exact⟨n,D,h0,h1.kept hg hne,h2⟩
theorem MapF.look {w:World} {b:Nat} {ls:List (List UInt8)} (h:MapF w b ls) (s:ByteArray) (x:List UInt8) (hx:str x=s) (hs:x.length≤4611686018427387904) :
  (Instr.lookup 78 (.map (some b)) (.string s) true).run prog w=.ok (.tuple #[.int .i64 (if x∈ls then (ls.idxOf x:Int) else 0),.bool (decide (x∈ls))]) w:=by
 subst hx;obtain⟨n,D,_,h1,h2,h3,h4⟩:=h;have hk:=Jj4 (str x) Wq;obtain⟨v,ps,hrun,hv⟩:=h1.look_ok Jg3 underlying78 (J2j w) (plainElem_int underlying3 Kl) hk;obtain⟨c,rfl,hc,_⟩:=plainElem_int_inv underlying3 hv;have hc:=congrArg Prod.fst hc;have e:(str x).data.toList=x:=rfl;rw [h3,e] at hrun;rw [hrun];have:c=if x∈ls then (ls.idxOf x:Int) else 0:=by
  by_cases hm:x∈ls
  ·rw [if_pos hm]
   rw [e,h4 _ _ hm] at hc;simpa using hc.symm
  ·rw [if_neg hm]
   rw [atKey_of_not_has (by rw [h3];exact Pj hm)] at hc;simpa using hc.symm
 rw [this]
theorem Jt2 {ls:List (List UInt8)} {x y:List UInt8} (h:x∈ls):(ls++[y]).idxOf x=ls.idxOf x:=by
 rw [List.idxOf_append,if_pos h]
theorem MapF.put {w:World} {b:Nat} {ls:List (List UInt8)} (h:MapF w b ls) (s:ByteArray) (x:List UInt8) (hx:str x=s) (hs:x.length≤4611686018427387904) (hn:x ∉ ls) (hl:ls.length<1099511627776) :
  ∃w',(Instr.mapUpdate 78 (.map (some b)) (.string s) (.int .i64 (ls.length:Nat))).run prog w=.ok () w'∧MapF w' b (ls++[x])∧w.grownBy w' (some b):=by
 subst hx;obtain⟨n,D,h0,h1,h2,h3,h4⟩:=h;obtain⟨w',hrun,r1,r2⟩:=h1.update Jg3 underlying78 Kr (Jj4 (str x) Wq) (plainElem_int underlying3 (WalkArith.wf_i64 (show -9223372036854775808≤((ls.length:Nat):Int)∧((ls.length:Nat):Int)≤9223372036854775807 by omega)));have e:(str x).data.toList=x:=rfl;rw [e] at r1;refine⟨w',hrun,⟨n+1,_,by rw [Pp];simpa using h0,r1,h2.put _ _,fun y=>?_,fun y z hy=>?_⟩,r2⟩
 ·by_cases hy:y=x
  ·subst hy
   exact Qd
  ·rw [has_put_other (by simpa using hy),h3]
   simp [hy]
 ·by_cases he:y=x
  ·subst he
   rw [atKey_put_same h2 Kq,List.idxOf_append,if_neg hn];simp
  ·have hm:y∈ls:=by simpa [he] using hy
   rw [atKey_put_other (by simpa using he),h4 _ _ hm,Jt2 hm]
theorem MapF.again {w:World} {b:Nat} {ls:List (List UInt8)} (h:MapF w b ls) {x:List UInt8} (hx:x∈ls):MapF w b (ls++[x]):=by
 obtain⟨n,D,h0,h1,h2,h3,h4⟩:=h;refine⟨n,D,by rw [Pp];omega,h1,h2,fun y=>?_,fun y z hy=>?_⟩
 ·rw [h3]
  by_cases hy:y=x
  ·subst hy;simp [hx]
  ·simp [hy]
 ·have hm:y∈ls:=by
   rcases List.mem_append.1 hy with h | h
   ·exact h
   ·simp at h;rw [h];exact hx
  rw [h4 _ _ hm,Jt2 hm]
def asIs (v:Value):Option (DataW Value×List MemPlace):=some (.held v,[])
theorem J0k (w:World):(zeroValue 84).run prog w=.ok (.slice none 0 0) w:=Kk
def MapL (w:World) (b n:Nat) (V:List UInt8→Value):Prop:=∃D:DataW Value,w.ownsMap prog 9 asIs b n D∧IsMap D∧∀x,D.atKey (.string x) (.held (.slice none 0 0))=.held (V x)
theorem MapL.made (w:World):MapL (w.alloc (.map #[] 0)) w.heap.size 0 fun _=>.slice none 0 0:=⟨.map [],World.ownsMap_made _ _ _ _,isMap_empty,fun _=>atKey_of_not_has (has_eq [] _) _⟩
theorem MapL.kept {w w':World} {b n:Nat} {V:List UInt8→Value} {row:Option Nat} (h:MapL w b n V) (hg:w.grownBy w' row) (hne:some b≠row):MapL w' b n V:=by
 obtain⟨D,h1,h2⟩:=h;exact⟨D,h1.kept hg hne,h2⟩
theorem MapL.look {w:World} {b n:Nat} {V:List UInt8→Value} (h:MapL w b n V) (s:ByteArray) (x:List UInt8) (hx:str x=s) (hs:x.length≤4611686018427387904):(Instr.lookup 76 (.map (some b)) (.string s) false).run prog w=.ok (V x) w:=by
 subst hx;obtain⟨D,g1,_,g3⟩:=h;obtain⟨v,ps,hrun,hv⟩:=g1.lookup Jg3 underlying76 (J0k w) (show asIs (.slice none 0 0)=some (.held (.slice none 0 0),[]) from rfl) (Jj4 (str x) Wq);have e:(str x).data.toList=x:=rfl;rw [e,g3] at hv;have:v=V x:=by
  unfold asIs at hv;have:=congrArg (fun z=>z.map Prod.fst) hv;simp at this;exact this
 rw [hrun,this]
def putL (V:List UInt8→Value) (a:List UInt8) (v:Value):List UInt8→Value:=fun x=>if x=a then v else V x
theorem MapL.put {w:World} {b n:Nat} {V:List UInt8→Value} (hown:MapL w b n V) (hn:n<1099511627776) (s:ByteArray) (x:List UInt8) (hx:str x=s) (hs:x.length≤4611686018427387904) (val:Value) :
  ∃w',(Instr.mapUpdate 76 (.map (some b)) (.string s) val).run prog w=.ok () w'∧MapL w' b (n+1) (putL V x val)∧w.grownBy w' (some b):=by
 subst hx;obtain⟨D,g1,g2,g3⟩:=hown;obtain⟨w',hrun,r1,r2⟩:=g1.update Jg3 underlying76 Kr (Jj4 (str x) Wq) (show asIs val=some (.held val,[]) from rfl);have e:(str x).data.toList=x:=rfl;rw [e] at r1;refine⟨w',hrun,⟨_,r1,g2.put _ _,fun y=>?_⟩,r2⟩;unfold putL;by_cases hy:y=x
 ·subst hy
  rw [if_pos rfl,atKey_put_same g2 Kq]
 ·rw [if_neg hy,atKey_put_other (by simpa using hy),g3]
open Go
def fe1 (e x:Int):Int:=if e=0 then x else e
theorem Jjh {e x:Int} (h:e≠0):fe1 e x=e:=if_neg h
theorem Jml {e x:Int} (h:e=0):fe1 e x=x:=if_pos h
theorem J0l {e:Int} {l:List Bs} {s:Bs} {k:Nat} (h:∀j,j<k→l[j]?≠some s) (hk:l[k]?=some s):fnd e l s=((k:Int),0):=by
 have hl:=(Pl hk).1;have:l.findIdx? (fun x=>decide (x=s))=some k:=by
  rw [List.findIdx?_eq_some_iff_getElem];refine⟨hl,by simpa using (Pl hk).2,fun j hj=>?_⟩;simp only [Bool.not_eq_true,decide_eq_false_iff_not];intro e;exact h j hj (by rw [List.getElem?_eq_getElem (Nat.lt_trans hj hl),e])
 unfold fnd;rw [this]
theorem Jmm {e:Int} {l:List Bs} {s:Bs} (h:∀j,j<l.length→l[j]?≠some s):fnd e l s=(0,e):=by
 have:l.findIdx? (fun x=>decide (x=s))=none:=by
  rw [List.findIdx?_eq_none_iff];intro x hx;simp only [decide_eq_false_iff_not];intro e;obtain⟨j,hj⟩:=List.mem_iff_getElem?.1 hx;exact h j (Pl hj).1 (by rw [hj,e])
 unfold fnd;rw [this]
theorem Jct (y:Int):fe1 y 0=y:=by unfold fe1;split <;> simp_all
theorem J0m (e y:Int) (l:List Bs) (s:Bs):(if decide ((fnd e l s).2=0)=true then y else fe1 y e)=fe1 y (fnd e l s).2:=by
 unfold fnd;cases l.findIdx? (fun x=>decide (x=s)) with
 | some i=>exact (Jct y).symm
 | none =>
  show (if decide (e=0)=true then y else fe1 y e)=fe1 y e
  by_cases h:e=0
  ·subst h;rw [if_pos Kj];exact (Jct y).symm
  ·rw [if_neg Kt]
theorem Jmn {a b:Bs} (h:str a=str b):a=b:=by
 exact Wr
open Go.RowKit
def LstO (F n:Nat) (W:World) (v:Value) (g:List Bs):Prop:=∃A c,v=.slice A g.length c∧g.length≤c∧c≤9223372036854775807∧(0<g.length→∃b o,A=some ⟨b,o,none⟩∧b<n∧b≠F∧∀(j:Nat) x,g[j]?=some x→W.cell? ⟨b,o+j,none⟩=some (.string (str x)))
structure Prd (F n:Nat) (vs:List Value) (v:Value) (g:List Bs) (e:Int) (W:World):Prop where
 box:W.heap[F]?=some (.cells vs.toArray 80 (0,0))
 rest:vs[0]?=some v
 err:vs[1]?=some (.int .i64 e)
 lst:LstO F n W v g
 size:n≤W.heap.size
def set2 (vs:List Value) (v:Value) (e:Int):List Value:=(vs.set 0 v).set 1 (.int .i64 e)
def Nx (F:Nat) (vs:List Value) (g:List Bs) (W0:World) (k:Nat) (e:Int) (W:World):Prop:=W0.grownBy W (some F)∧F<W0.heap.size∧∃v,Prd F W0.heap.size (set2 vs v e) v (g.drop k) e W
section
variable {F n:Nat} {vs:List Value} {v v':Value} {g:List Bs} {e x:Int} {W W' W0:World} {k:Nat}
theorem Jae {i:Nat} (h:2≤i):(set2 vs v e)[i]?=vs[i]?:=by
 unfold set2;rw [List.getElem?_set,if_neg Kd,List.getElem?_set,if_neg Kd]
theorem Prd.lt (h:Prd F n vs v g e W):F<W.heap.size:=(Pm h.box).1
theorem Prd.cell (h:Prd F n vs v g e W) {i:Nat} {u:Value} (hv:vs[i]?=some u):W.cell? ⟨F,i,none⟩=some u∧W.frozen? ⟨F,i,none⟩=false :=
 ⟨Wl,frozen_of_row _ _ _ _ _ h.box⟩
theorem LstO.kept {q:Nat} (h:LstO F n W v g) (hn:n≤W.heap.size) (b:W.grownBy W' (some q)) (hq:q=F∨n≤q):LstO F n W' v g:=by
 obtain⟨A,c,e,h1,h2,h3⟩:=h;refine⟨A,c,e,h1,h2,fun h0=>?_⟩;obtain⟨bk,o,e1,h4,h5,h6⟩:=h3 h0;have hne:bk≠q:=hq.elim (fun r e=>h5 (e.trans r)) (fun r e=>Nat.lt_irrefl q (Pr (e ▸ h4) r));have hb:=b.block bk (Pr h4 hn) (fun e=>hne (Po e));exact⟨bk,o,e1,h4,h5,fun j x hx=>by rw [←h6 j x hx];unfold World.cell?;rw [hb]⟩
def Jgr (F:Nat) (W W':World):Prop:=∀b o,b≠F→W.heap[b]?=some o→W'.heap[b]?=some o
theorem Jt3 (h:W.grownBy W' (some F)):Jgr F W W':=fun b _ hb ho=>(h.block b (Pm ho).1 (fun e=>hb (Po e))).trans ho
theorem Nx.lt (h:Nx F vs g W0 k e W):F<W.heap.size:=Pr h.2.1 h.1.size
theorem Nx.on (h:Nx F vs g W0 k e W) (b:Pn W W'):Nx F vs g W0 k e W':=by
 obtain⟨h1,h2,v,h3⟩:=h;exact⟨h1.trans (Jbs b _),h2,v,(b.block _ h3.lt).trans h3.box,h3.rest,h3.err,h3.lst.kept h3.size (Jbs b (some F)) (.inl rfl),Nat.le_trans h3.size b.size⟩
theorem Nx.off {q:Nat} (h:Nx F vs g W0 k e W) (b:W.grownBy W' (some q)) (hq:W0.heap.size≤q) (hF:q≠F):Nx F vs g W0 k e W':=by
 obtain⟨h1,h2,v,h3⟩:=h;exact⟨⟨b.os.trans h1.os,b.tape.trans h1.tape,b.output.trans h1.output,Nat.le_trans h1.size b.size,fun j hj hne=>(b.block j (Pr hj h1.size) (fun e=>by have:=Po e;omega)).trans (h1.block j hj hne)⟩,h2,v,(b.block _ h3.lt (fun e=>hF (Po e).symm)).trans h3.box,h3.rest,h3.err,h3.lst.kept h3.size b (.inr hq),Nat.le_trans h3.size b.size⟩
theorem Nx.cell (h:Nx F vs g W0 k e W) {i:Nat} {u:Value} (hi:2≤i) (hv:vs[i]?=some u):W.cell? ⟨F,i,none⟩=some u:=by
 obtain⟨-,-,v,h3⟩:=h;exact (h3.cell ((Jae hi).trans hv)).1
theorem Nx.err (h:Nx F vs g W0 k e W):W.cell? ⟨F,1,none⟩=some (.int .i64 e)∧W.frozen? ⟨F,1,none⟩=false:=by
 obtain⟨-,-,v,h3⟩:=h;exact h3.cell h3.err
theorem Nx.fail (h:Nx F vs g W0 k e W) (x:Int):Nx F vs g W0 k x (W.setCell ⟨F,1,none⟩ (.int .i64 x)):=by
 obtain⟨h1,h2,v,h3⟩:=h;have hg:=Jbp W F 1 (.int .i64 x);have hl:1<(set2 vs v e).length:=(Pl h3.err).1;have e1:(set2 vs v e).set 1 (.int .i64 x)=set2 vs v x:=by unfold set2;rw [List.set_set]
 refine⟨h1.trans hg,h2,v,?_,?_,?_,h3.lst.kept h3.size hg (.inl rfl),Nat.le_trans h3.size hg.size⟩
 ·rw [heap_setCell_same _ _ _ _ _ _ h3.box,List.setIfInBounds_toArray,e1]
 ·rw [←e1,List.getElem?_set,if_neg Kd];exact h3.rest
 ·rw [←e1,List.getElem?_set,if_pos rfl,if_pos hl]
theorem Nx.start (h:Prd F W.heap.size vs v g e W):Nx F vs g W 0 e W:=by
 have e1:set2 vs v e=vs:=by
  unfold set2;obtain⟨hl,hv⟩:=Pl h.rest;rw [←hv,List.set_getElem_self hl];obtain⟨hl,hv⟩:=Pl h.err;rw [←hv,List.set_getElem_self hl]
 exact⟨Jbs Pg _,h.lt,v,by rw [e1];exact h⟩
end
def Rdr (F:Nat) (vs:List Value) (g:List Bs) (W0:World) (f:FuncId) (x:Array Value) (k:Nat) (e:Int) (u:Value) (k':Nat) (e':Int):Prop :=
 ∀W,Nx F vs g W0 k e W→Calls prog f x W fun r W'=>r=.returned u∧Nx F vs g W0 k' e' W'∧Jgr F W W'
section
variable {F:Nat} {vs:List Value} {g:List Bs} {W0:World}
theorem Jdy (ok:Bool) (x:Int) (k:Nat) (e:Int):Rdr F vs g W0 95 #[.pointer (some ⟨F,0,none⟩),.bool ok,.int .i64 x] k e (.tuple #[]) k (if ok then e else fe1 e x):=by
 intro W h;obtain⟨c0,c1⟩:=h.err;have H:=Pe h;cases ok with
 | true =>
  clear h;go_enter func95,ntmps95;go_wp2_with fail;go_end0;exact⟨rfl,H.out,fun _ _ _ ho=>ho⟩
 | false =>
  by_cases he:e=0
  ·have P:=Pe (h.fail x)
   have Q:Hid (fe1 e x=x):=Pe (Jml he);have ge:(e==0)=true:=Jai he;clear h he;go_enter func95,ntmps95;go_wp2_with fail;go_end0;exact⟨rfl,by rw [Q.out];exact P.out,Jt3 (Jbp _ _ _ _)⟩
  ·have Q:Hid (fe1 e x=e):=Pe (Jjh he)
   have ge:(e==0)=false:=Jaa he;clear h he;go_enter func95,ntmps95;go_wp2_with fail;go_end0;exact⟨rfl,by rw [Q.out];exact H.out,fun _ _ _ ho=>ho⟩
theorem Jgr.trans {W1 W2 W3:World} (a:Jgr F W1 W2) (b:Jgr F W2 W3):Jgr F W1 W3:=fun k o hk ho=>b k o hk (a k o hk ho)
theorem Jff (n x:Int) (k:Nat) (e:Int):Rdr F vs g W0 249 #[.pointer (some ⟨F,0,none⟩),.int .i64 n,.int .i64 x] k e (.int .i64 n) k (fe1 e x):=by
 intro W h;have C:=Pe (Jdy (F:=F) (vs:=vs) (g:=g) (W0:=W0) (x==0) x k e W h);have E:Hid ((if (x==0)=true then e else fe1 e x)=fe1 e x):=Pe (by
  by_cases hx:x=0
  ·subst hx;rw [if_pos Kj];exact (Jct e).symm
  ·rw [if_neg Qq])
 clear h;go_enter func249,ntmps249;go_wp2_with fail;refine C.out.mono ?_;rintro r w1 ⟨rfl,n1,s1⟩;have N1:=Pe n1;have S1:=Pe s1;clear n1 s1 C;go_wp2_with fail;go_ret;exact⟨rfl,by rw [←E.out];exact N1.out,S1.out⟩
theorem J4s {k:Nat} {x:Bs} {q:List Bs} (h:g.drop k=x::q):g.getD k []=x∧g.drop (k+1)=q:=by
 refine⟨?_,?_⟩
 ·rw [List.getD_eq_getElem?_getD]
  have:=congrArg (fun l:List Bs=>l[0]?) h;simp at this;rw [this];rfl
 ·rw [←List.drop_drop,h];rfl
theorem J0n {k:Nat} (h:g.drop k=[]):g.getD k []=[]∧g.drop (k+1)=[]:=by
 have hl:g.length≤k:=Kt;refine⟨?_,List.drop_of_length_le Kd⟩;rw [List.getD_eq_getElem?_getD,List.getElem?_eq_none hl];rfl
theorem Jbq (k:Nat) (e:Int):Rdr F vs g W0 43 #[.pointer (some ⟨F,0,none⟩)] k e (.string (str (g.getD k []))) (k+1) e:=by
 intro W h;obtain⟨h1,h2,v,h3⟩:=h;obtain⟨c0,c1⟩:=h3.cell h3.rest;have H1:=Pe h1;have H2:=Pe h2;have H3:=Pe h3;obtain⟨q,hq⟩:=Pi (g.drop k);have HQ:=Pe hq;obtain⟨A,c,rfl,l1,l2,l3⟩:=h3.lst;cases q with
 | nil =>
  obtain⟨d1,d2⟩:=J0n hq;rw [d1];have D2:=Pe d2;have hl:(g.drop k).length=0:=by rw [hq];rfl
  rw [hl] at c0;clear h1 h2 h3 l1 l2 l3 hq d1 d2;go_enter func43,ntmps43;go_wp2_with fail;go_ret;exact⟨rfl,⟨H1.out,H2.out,_,by rw [D2.out,←HQ.out];exact H3.out⟩,fun _ _ _ ho=>ho⟩
 | cons x q =>
  obtain⟨d1,d2⟩:=J4s hq;rw [d1];have D2:=Pe d2;have hl:(g.drop k).length=q.length+1:=by rw [hq];rfl
  obtain⟨b,o,rfl,b1,b2,b3⟩:=l3 Kd;rw [hl] at c0 l1;have m:W.cell? ⟨b,o,none⟩=some (.string (str x)):=b3 0 x (by rw [hq];rfl);obtain⟨A,hA⟩:=Pi ((if c=1 then some (⟨b,o,none⟩:Addr) else some ⟨b,o+1,none⟩));have L:Hid (LstO F W0.heap.size W (.slice A q.length (c - 1)) q):=Pe ⟨_,_,rfl,Kd,Kd,fun h0=>⟨b,o+1,by rw [←hA,if_neg Kd],b1,b2,fun j y hy=>by rw [Nat.add_assoc,Nat.add_comm 1 j];exact b3 (j+1) y (by rw [hq];exact hy)⟩⟩;have r1:∀W,(Instr.slice 66 (.slice (some ⟨b,o,none⟩) (q.length+1) c) (some (.int .i64 1)) none none).run prog W=.ok (.slice A q.length (c - 1)) W:=fun W=>by
   have e1:prog.elem 66=9:=by simp [Program.elem,underlying66]
   have s1:(Go.sizeOf 9).run prog W=.ok 1 W:=Kk;have:=run_slice_l W 66 (some ⟨b,o,none⟩) (q.length+1) c (by rw [e1];exact underlying66) .i64 1 Kd Kd;rw [this,e1,s1];show Result.ok (sliced _ 1 _ _ 1) W=_
   unfold sliced;rw [←hA];have e3:(⟨b,o,none⟩:Addr).add (1*1)=⟨b,o+1,none⟩:=Addr.add_lit _ _ _;rw [Option.map_some,e3,Nat.add_sub_cancel]
  have hlen:0<q.length+1:=Kd;have z0:(((q.length+1:Nat):Int)==0)=false:=Jaa Kd;obtain⟨t,ht⟩:=Pi (str x);rw [ht] at m ⊢;have PP:Hid (Nx F vs g W0 (k+1) e (W.setCell ⟨F,0,none⟩ (.slice A q.length (c - 1)))):=Pe (by
   have hg:=Jbp W F 0 (.slice A q.length (c - 1));refine⟨H1.out.trans hg,H2.out,.slice A q.length (c - 1),?_,?_,?_,?_,Nat.le_trans H3.out.size hg.size⟩
   ·rw [heap_setCell_same _ _ _ _ _ _ H3.out.box,List.setIfInBounds_toArray]
    congr 2
    unfold set2;match vs with
    | []=>rfl
    | [_]=>rfl
    | _::_::_=>rfl
   ·have:=(Pl H3.out.rest).1
    unfold set2 at this ⊢;simp only [List.length_set] at this;rw [List.getElem?_set,if_neg Kd,List.getElem?_set,if_pos rfl,if_pos this]
   ·have:=(Pl H3.out.err).1
    unfold set2 at this ⊢;simp only [List.length_set] at this;rw [List.getElem?_set,if_pos rfl,if_pos (by rw [List.length_set];exact this)]
   ·rw [D2.out];exact L.out.kept H3.out.size hg (.inl rfl))
  have SS:Hid (Jgr F W (W.setCell ⟨F,0,none⟩ (.slice A q.length (c - 1)))):=Pe (Jt3 (Jbp _ _ _ _));clear h1 h2 h3 l1 l2 l3 hq d1 d2 b3 hl;go_enter func43,ntmps43;go_wp2_with fail;go_ret;exact⟨rfl,PP.out,SS.out⟩
end
theorem Nx.blw {F:Nat} {vs:List Value} {g:List Bs} {W0 W W':World} {k:Nat} {e:Int} (h:Nx F vs g W0 k e W) (b:Pn W W'):Nx F vs g W0 k e W'∧Jgr F W W':=⟨h.on b,fun i _ _ ho=>(b.block i (Pm ho).1).trans ho⟩
section
variable {F:Nat} {vs:List Value} {g:List Bs} {W0:World}
theorem Jfg (F_:Fm) (k:Nat) (e:Int) (P:∀w:World,W0.grownBy w (some F)→Pc 250 #[.string (str (g.getD k []))] w (.tuple #[.int .i64 (F_.num (g.getD k [])).1,.int .i64 (F_.num (g.getD k [])).2])):Rdr F vs g W0 175 #[.pointer (some ⟨F,0,none⟩)] k e (.int .i64 (F_.num (g.getD k [])).1) (k+1) (fe1 e (F_.num (g.getD k [])).2):=by
 intro W h;have C1:=Pe (Jbq (F:=F) (vs:=vs) (g:=g) (W0:=W0) k e W h);have C2:=Pe P;generalize str (g.getD k [])=s at C1 C2;generalize F_.num (g.getD k [])=q at C2 ⊢;have C3:=Pe (fun W'=>Jff (F:=F) (vs:=vs) (g:=g) (W0:=W0) q.1 q.2 (k+1) e W');clear h P;go_enter func175,ntmps175;go_wp2_with fail;refine C1.out.mono ?_;rintro r w1 ⟨rfl,n1,s1⟩;have D:=Pe (C2.out w1 n1.1);have N1:=Pe n1;have S1:=Pe s1;clear n1 s1 C1;go_wp2_with fail;refine D.out.mono ?_;rintro r w2 ⟨rfl,b2⟩;have N2:=Pe (N1.out.blw b2);have D3:=Pe (C3.out w2 N2.out.1);clear b2 D C3;go_wp2_with fail;refine D3.out.mono ?_;exact Wm
theorem Jii (F_:Fm) (k:Nat) (e:Int) (P:∀w:World,W0.grownBy w (some F)→Pc 254 #[.string (str (g.getD k []))] w (.tuple #[.int .i64 (F_.tim (g.getD k [])).1,.int .i64 (F_.tim (g.getD k [])).2])):Rdr F vs g W0 183 #[.pointer (some ⟨F,0,none⟩)] k e (.int .i64 (F_.tim (g.getD k [])).1) (k+1) (fe1 e (F_.tim (g.getD k [])).2):=by
 intro W h;have C1:=Pe (Jbq (F:=F) (vs:=vs) (g:=g) (W0:=W0) k e W h);have C2:=Pe P;generalize str (g.getD k [])=s at C1 C2;generalize F_.tim (g.getD k [])=q at C2 ⊢;have C3:=Pe (fun W'=>Jff (F:=F) (vs:=vs) (g:=g) (W0:=W0) q.1 q.2 (k+1) e W');clear h P;go_enter func183,ntmps183;go_wp2_with fail;refine C1.out.mono ?_;rintro r w1 ⟨rfl,n1,s1⟩;have D:=Pe (C2.out w1 n1.1);have N1:=Pe n1;have S1:=Pe s1;clear n1 s1 C1;go_wp2_with fail;refine D.out.mono ?_;rintro r w2 ⟨rfl,b2⟩;have N2:=Pe (N1.out.blw b2);have D3:=Pe (C3.out w2 N2.out.1);clear b2 D C3;go_wp2_with fail;refine D3.out.mono ?_;exact Wm
theorem Jd5 (F_:Fm) (k:Nat) (e:Int) (P:∀w:World,W0.grownBy w (some F)→Pc 255 #[.string (str (g.getD k []))] w (.tuple #[.int .i64 (F_.dur (g.getD k [])).1,.int .i64 (F_.dur (g.getD k [])).2])):Rdr F vs g W0 185 #[.pointer (some ⟨F,0,none⟩)] k e (.int .i64 (F_.dur (g.getD k [])).1) (k+1) (fe1 e (F_.dur (g.getD k [])).2):=by
 intro W h;have C1:=Pe (Jbq (F:=F) (vs:=vs) (g:=g) (W0:=W0) k e W h);have C2:=Pe P;generalize str (g.getD k [])=s at C1 C2;generalize F_.dur (g.getD k [])=q at C2 ⊢;have C3:=Pe (fun W'=>Jff (F:=F) (vs:=vs) (g:=g) (W0:=W0) q.1 q.2 (k+1) e W');clear h P;go_enter func185,ntmps185;go_wp2_with fail;refine C1.out.mono ?_;rintro r w1 ⟨rfl,n1,s1⟩;have D:=Pe (C2.out w1 n1.1);have N1:=Pe n1;have S1:=Pe s1;clear n1 s1 C1;go_wp2_with fail;refine D.out.mono ?_;rintro r w2 ⟨rfl,b2⟩;have N2:=Pe (N1.out.blw b2);have D3:=Pe (C3.out w2 N2.out.1);clear b2 D C3;go_wp2_with fail;refine D3.out.mono ?_;exact Wm
theorem Jq7 (F_:Fm) (k:Nat) (e:Int) (P:∀w:World,W0.grownBy w (some F)→Pc 253 #[.string (str (g.getD k []))] w (.tuple #[.int .i64 (F_.day (g.getD k [])).1,.int .i64 (F_.day (g.getD k [])).2])):Rdr F vs g W0 180 #[.pointer (some ⟨F,0,none⟩)] k e (.int .i64 (F_.day (g.getD k [])).1) (k+1) (fe1 e (F_.day (g.getD k [])).2):=by
 intro W h;have C1:=Pe (Jbq (F:=F) (vs:=vs) (g:=g) (W0:=W0) k e W h);have C2:=Pe P;generalize str (g.getD k [])=s at C1 C2;generalize F_.day (g.getD k [])=q at C2 ⊢;have C3:=Pe (fun W'=>Jff (F:=F) (vs:=vs) (g:=g) (W0:=W0) q.1 q.2 (k+1) e W');clear h P;go_enter func180,ntmps180;go_wp2_with fail;refine C1.out.mono ?_;rintro r w1 ⟨rfl,n1,s1⟩;have D:=Pe (C2.out w1 n1.1);have N1:=Pe n1;have S1:=Pe s1;clear n1 s1 C1;go_wp2_with fail;refine D.out.mono ?_;rintro r w2 ⟨rfl,b2⟩;have N2:=Pe (N1.out.blw b2);have D3:=Pe (C3.out w2 N2.out.1);clear b2 D C3;go_wp2_with fail;refine D3.out.mono ?_;exact Wm
theorem Jji (F_:Fm) (k:Nat) (e:Int) (P:∀w:World,W0.grownBy w (some F)→Pc 256 #[.string (str (g.getD k []))] w (.tuple #[.int .i64 (F_.prc (g.getD k [])).1,.int .i64 (F_.prc (g.getD k [])).2])):Rdr F vs g W0 186 #[.pointer (some ⟨F,0,none⟩)] k e (.int .i64 (F_.prc (g.getD k [])).1) (k+1) (fe1 e (F_.prc (g.getD k [])).2):=by
 intro W h;have C1:=Pe (Jbq (F:=F) (vs:=vs) (g:=g) (W0:=W0) k e W h);have C2:=Pe P;generalize str (g.getD k [])=s at C1 C2;generalize F_.prc (g.getD k [])=q at C2 ⊢;have C3:=Pe (fun W'=>Jff (F:=F) (vs:=vs) (g:=g) (W0:=W0) q.1 q.2 (k+1) e W');clear h P;go_enter func186,ntmps186;go_wp2_with fail;refine C1.out.mono ?_;rintro r w1 ⟨rfl,n1,s1⟩;have D:=Pe (C2.out w1 n1.1);have N1:=Pe n1;have S1:=Pe s1;clear n1 s1 C1;go_wp2_with fail;refine D.out.mono ?_;rintro r w2 ⟨rfl,b2⟩;have N2:=Pe (N1.out.blw b2);have D3:=Pe (C3.out w2 N2.out.1);clear b2 D C3;go_wp2_with fail;refine D3.out.mono ?_;exact Wm
theorem J0o (F_:Fm) (k:Nat) (e:Int) (P:∀w:World,W0.grownBy w (some F)→Pc 257 #[.string (str (g.getD k []))] w (.tuple #[.int .i64 (F_.mds (g.getD k [])).1,.int .i64 (F_.mds (g.getD k [])).2])):Rdr F vs g W0 187 #[.pointer (some ⟨F,0,none⟩)] k e (.int .i64 (F_.mds (g.getD k [])).1) (k+1) (fe1 e (F_.mds (g.getD k [])).2):=by
 intro W h;have C1:=Pe (Jbq (F:=F) (vs:=vs) (g:=g) (W0:=W0) k e W h);have C2:=Pe P;generalize str (g.getD k [])=s at C1 C2;generalize F_.mds (g.getD k [])=q at C2 ⊢;have C3:=Pe (fun W'=>Jff (F:=F) (vs:=vs) (g:=g) (W0:=W0) q.1 q.2 (k+1) e W');clear h P;go_enter func187,ntmps187;go_wp2_with fail;refine C1.out.mono ?_;rintro r w1 ⟨rfl,n1,s1⟩;have D:=Pe (C2.out w1 n1.1);have N1:=Pe n1;have S1:=Pe s1;clear n1 s1 C1;go_wp2_with fail;refine D.out.mono ?_;rintro r w2 ⟨rfl,b2⟩;have N2:=Pe (N1.out.blw b2);have D3:=Pe (C3.out w2 N2.out.1);clear b2 D C3;go_wp2_with fail;refine D3.out.mono ?_;exact Wm
theorem J4t (k:Nat) (e:Int) (P:∀w:World,W0.grownBy w (some F)→Pc 252 #[.string (str (g.getD k []))] w (.tuple #[.int .i64 (fnd 3 nmL (g.getD k [])).1,.bool (decide ((fnd 3 nmL (g.getD k [])).2=0))])):Rdr F vs g W0 178 #[.pointer (some ⟨F,0,none⟩)] k e (.int .i64 (fnd 3 nmL (g.getD k [])).1) (k+1) (fe1 e (fnd 3 nmL (g.getD k [])).2):=by
 intro W h;have C1:=Pe (Jbq (F:=F) (vs:=vs) (g:=g) (W0:=W0) k e W h);have C2:=Pe P;have E:Hid ((if decide ((fnd 3 nmL (g.getD k [])).2=0)=true then e else fe1 e 3)=fe1 e (fnd 3 nmL (g.getD k [])).2):=Pe (J0m _ _ _ _);generalize str (g.getD k [])=s at C1 C2;generalize fnd 3 nmL (g.getD k [])=q at C2 E ⊢;obtain⟨b,hb⟩:=Pi (decide (q.2=0));rw [hb] at C2 E;have C3:=Pe (fun W'=>Jdy (F:=F) (vs:=vs) (g:=g) (W0:=W0) b 3 (k+1) e W');clear h P hb;go_enter func178,ntmps178;go_wp2_with fail;refine C1.out.mono ?_;rintro r w1 ⟨rfl,n1,s1⟩;have D:=Pe (C2.out w1 n1.1);have N1:=Pe n1;have S1:=Pe s1;clear n1 s1 C1;go_wp2_with fail;refine D.out.mono ?_;rintro r w2 ⟨rfl,b2⟩;have N2:=Pe (N1.out.blw b2);have D3:=Pe (C3.out w2 N2.out.1);clear b2 D C3;go_wp2_with fail;refine D3.out.mono ?_;rintro r w3 ⟨rfl,n3,s3⟩;have N3:=Pe n3;have S3:=Pe ((S1.out.trans N2.out.2).trans s3);clear n3 s3 D3;go_wp2_with fail;go_ret;exact⟨rfl,by rw [←E.out];exact N3.out,S3.out⟩
theorem Jbo (n k:Nat) (e:Int) (hg:g.length≤1000000):Rdr F vs g W0 174 #[.pointer (some ⟨F,0,none⟩),.int .i64 (n:Int)] k e (.tuple #[]) k (fe1 e (if (g.drop k).length=n then 0 else 1)):=by
 intro W h;have h':=h;obtain⟨-,-,v,h3⟩:=h';obtain⟨c0,c1⟩:=h3.cell h3.rest;obtain⟨A,c,rfl,l1,l2,-⟩:=h3.lst;have C:=Pe (Jdy (F:=F) (vs:=vs) (g:=g) (W0:=W0) (decide ((g.drop k).length=n)) 1 k e W h);have E:Hid ((if decide ((g.drop k).length=n)=true then e else fe1 e 1)=fe1 e (if (g.drop k).length=n then 0 else 1)):=Pe (by
  by_cases hx:(g.drop k).length=n
  ·rw [if_pos hx,if_pos (Pk hx)];unfold fe1;split <;> simp_all
  ·rw [if_neg hx,if_neg Qq])
 have hd:((((g.drop k).length:Nat):Int)==(n:Int))=decide ((g.drop k).length=n):=by
  by_cases hx:(g.drop k).length=n
  ·rw [Pk hx,hx];exact Jai rfl
  ·rw [Pj hx];exact Jaa Kd
 generalize decide ((g.drop k).length=n)=b at C E hd;generalize (if (g.drop k).length=n then (0:Int) else 1)=y at E ⊢;have hl:(g.drop k).length≤1000000:=by rw [List.length_drop];omega
 generalize (g.drop k).length=m at *;clear h3 l1;go_enter func174,ntmps174;go_wp2_with fail;refine C.out.mono ?_;rintro r w1 ⟨rfl,n1,s1⟩;have N1:=Pe n1;have S1:=Pe s1;clear n1 s1 C;go_wp2_with fail;go_end0;exact⟨rfl,by rw [←E.out];exact N1.out,S1.out⟩
theorem first_any (a b:Bs) (hab:a≠b) (k:Nat) (e:Int):Rdr F vs g W0 251 #[.pointer (some ⟨F,0,none⟩),.string (str a),.string (str b)] k e (.bool (decide ((fnd 3 [b,a] (g.getD k [])).1=1))) (k+1) (fe1 e (fnd 3 [b,a] (g.getD k [])).2):=by
 intro W h;have C1:=Pe (Jbq (F:=F) (vs:=vs) (g:=g) (W0:=W0) k e W h);obtain⟨t,ht⟩:=Pi (g.getD k []);rw [ht] at C1 ⊢;have go:∀(p q:Bool) (r:Int),((str t).toList==(str a).toList)=p→(p=false→((str t).toList==(str b).toList)=q)→decide ((fnd 3 [b,a] t).1=1)=p→(if (p || q) then e else fe1 e 3)=fe1 e r→(fnd 3 [b,a] t).2=r →
   Calls prog 251 #[.pointer (some ⟨F,0,none⟩),.string (str a),.string (str b)] W fun r W'=>r=.returned (.bool (decide ((fnd 3 [b,a] t).1=1)))∧Nx F vs g W0 (k+1) (fe1 e (fnd 3 [b,a] t).2) W'∧Jgr F W W':=by
  intro p q r hp hq hv hr hz;rw [hv,hz];have E:=Pe hr;clear hv hr hz;generalize str t=s at C1 hp hq;generalize str a=sa at hp ⊢;generalize str b=sb at hq ⊢;cases p with
  | true =>
   have C3:=Pe (fun W'=>Jdy (F:=F) (vs:=vs) (g:=g) (W0:=W0) true 3 (k+1) e W');clear h hq ht;go_enter func251,ntmps251;go_wp2_with fail;refine C1.out.mono ?_;rintro r w1 ⟨rfl,n1,s1⟩;have D3:=Pe (C3.out w1 n1);have S1:=Pe s1;clear n1 s1 C1 C3;go_wp2_with fail;refine D3.out.mono ?_;exact Wn
  | false =>
   have hq:=hq rfl;have C3:=Pe (fun W'=>Jdy (F:=F) (vs:=vs) (g:=g) (W0:=W0) q 3 (k+1) e W');clear h ht;go_enter func251,ntmps251;go_wp2_with fail;refine C1.out.mono ?_;rintro r w1 ⟨rfl,n1,s1⟩;have D3:=Pe (C3.out w1 n1);have S1:=Pe s1;clear n1 s1 C1 C3;go_wp2_with fail;refine D3.out.mono ?_;exact Wn
 by_cases h1:t=a
 ·refine go true false 0 (Jby (by rw [h1])) (fun h=>Qf) ?_ (by rw [Jct];rfl) ?_
  all_goals rw [J0l (k:=1) (fun j hj=>by (have:j=0:=Kd);subst this;simp only [List.getElem?_cons_zero,ne_eq,Option.some.injEq];exact fun q=>hab (h1.symm.trans q.symm)) Qx]
  ·rfl
 ·have n1:=Jb7 (a:=str t) (b:=str a) (fun q=>h1 (Jmn q))
  by_cases h2:t=b
  ·refine go false true 0 n1 (fun _=>Jby (by rw [h2])) ?_ (by rw [Jct];rfl) ?_
   all_goals rw [J0l (k:=0) (fun j hj=>Kd) X7]
   ·rfl
  ·refine go false false 3 n1 (fun _=>Jb7 (fun q=>h2 (Jmn q))) ?_ Kj ?_
   all_goals rw [Jmm (fun j hj=>by
    match j,hj with
    | 0,_=>simpa using fun q=>h2 q.symm
    | 1,_=>simpa using fun q=>h1 q.symm
    | j+2,hj=>simp at hj;omega)]
   ·rfl
theorem Jij (k:Nat) (e:Int):Rdr F vs g W0 176 #[.pointer (some ⟨F,0,none⟩)] k e (.bool (flg (g.getD k [])).1) (k+1) (fe1 e (flg (g.getD k [])).2):=by
 intro W h;have C1:=Pe (first_any (F:=F) (vs:=vs) (g:=g) (W0:=W0) wYes wNo Kl k e W h);clear h;go_enter func176,ntmps176;go_wp2_with fail;refine C1.out.mono ?_;exact Wp
theorem Qaz (k:Nat) (e:Int):Rdr F vs g W0 182 #[.pointer (some ⟨F,0,none⟩)] k e (.bool (decide ((fnd 3 [wRem,wAdd] (g.getD k [])).1=1))) (k+1) (fe1 e (fnd 3 [wRem,wAdd] (g.getD k [])).2):=by
 intro W h;have C1:=Pe (first_any (F:=F) (vs:=vs) (g:=g) (W0:=W0) wAdd wRem Kl k e W h);clear h;go_enter func182,ntmps182;go_wp2_with fail;refine C1.out.mono ?_;exact Wp
end
theorem takeH {P:Program} {md:Region.Mode} {ops:Array Oper} {Q:Exit→Act→World→Prop} {S:World→Prop} {i:Nat} {oi:Oper} {v:Value} {fuel:Nat} {listed:Array Bool} {a:Act} {w:World} (d:Nat) (hi:ops[i]?=some oi) (hd:oi.dst=some d)
  (hs:Region.noSelect ops=true) (hf:Region.free md ops listed i=true) (hr:(Region.ready md ops listed).contains i=true)
  (hQ:∀c a w,Q (.panic c) (a.put (some d) v) w→Q (.panic c) a w) (hy:YieldsIf P ops S oi v a) (hS:S w)
  (h:wpAnyH P md ops Q S fuel (listed.setIfInBounds i true) (a.put (some d) v) w):wpAnyH P md ops Q S (fuel+1) listed a w :=
 wpAnyH_take hi hs hf hr (by rw [hd];exact hQ) hy hS (by rw [hd];exact h)
theorem oneH {P:Program} {md:Region.Mode} {ops:Array Oper} {Q:Exit→Act→World→Prop} {S:World→Prop} {i:Nat} {oi:Oper} {fuel:Nat} {listed:Array Bool} {a:Act} {w:World} (hr:Region.ready md ops listed=[i]) (hi:ops[i]?=some oi) (wi:Region.wanted oi (yielded ops a.tmps)=true)
  (h:∀K:Act→World→Prop,Shut (∀a w,S w→(S w→wpAnyH P md ops Q S fuel (listed.setIfInBounds i true) a w)→K a w)→Oper.wp P oi a w K Q):wpAnyH P md ops Q S (fuel+1) listed a w :=
 wpAnyH_ready hr Kj (AllReadyH.cons hi (fun K hK=>by rw [if_pos wi];exact h K hK) AllReadyH.nil)
theorem Jvy {P:Program} {md:Region.Mode} {ops:Array Oper} {Q:Exit→Act→World→Prop} {S:World→Prop} {i j:Nat} {oi oj:Oper} {fuel:Nat} {listed:Array Bool} {a:Act} {w:World} (di dj:Nat)
  (hr:Region.ready md ops listed=[i,j]) (hri:Region.ready md ops (listed.setIfInBounds i true)=[j]) (hrj:Region.ready md ops (listed.setIfInBounds j true)=[i]) (hij:i≠j) (hi:ops[i]?=some oi) (hj:ops[j]?=some oj)
  (wi:Region.wanted oi (yielded ops a.tmps)=true) (wj:Region.wanted oj (yielded ops a.tmps)=true) (wi':∀q,Region.wanted oi (yielded ops (a.put (some dj) q).tmps)=true) (wj':∀u,Region.wanted oj (yielded ops (a.put (some di) u).tmps)=true) (hd:di≠dj)
  (R:World→Value→Value→Prop) (Ri Rj:World→Value→Prop)
  (c1:∀K:Act→World→Prop,Shut (∀a' u W',a'=a.put (some di) u→S W'→Ri W' u→K a' W')→Oper.wp P oi a w K Q)
  (c2:∀u W,S W→Ri W u→∀K:Act→World→Prop,Shut (∀a' q W',a'=(a.put (some di) u).put (some dj) q→S W'→R W' u q→K a' W')→Oper.wp P oj (a.put (some di) u) W K Q)
  (c3:∀K:Act→World→Prop,Shut (∀a' q W',a'=a.put (some dj) q→S W'→Rj W' q→K a' W')→Oper.wp P oj a w K Q)
  (c4:∀q W,S W→Rj W q→∀K:Act→World→Prop,Shut (∀a' u W',a'=(a.put (some dj) q).put (some di) u→S W'→R W' u q→K a' W')→Oper.wp P oi (a.put (some dj) q) W K Q)
  (rest:∀u q W,S W→R W u q→wpAnyH P md ops Q S fuel ((listed.setIfInBounds i true).setIfInBounds j true) ((a.put (some di) u).put (some dj) q) W):wpAnyH P md ops Q S (fuel+1+1) listed a w:=by
 refine wpAnyH_ready hr Kj (AllReadyH.cons hi (fun K hK=>?_) (AllReadyH.cons hj (fun K hK=>?_) AllReadyH.nil))
 ·rw [if_pos wi]
  refine c1 K (fun a' u W ha hS hR=>hK.out _ _ hS fun _=>?_);subst ha;refine wpAnyH_ready hri Kj (AllReadyH.cons hj (fun K' hK'=>?_) AllReadyH.nil);rw [if_pos (wj' u)];exact c2 u W hS hR K' (fun a' q W' ha hS' hR'=>hK'.out _ _ hS' fun _=>by rw [ha];exact rest u q W' hS' hR')
 ·rw [if_pos wj]
  refine c3 K (fun a' q W ha hS hR=>hK.out _ _ hS fun _=>?_);subst ha;refine wpAnyH_ready hrj Kj (AllReadyH.cons hi (fun K' hK'=>?_) AllReadyH.nil);rw [if_pos (wi' q)];refine c4 q W hS hR K' (fun a' u W' ha hS' hR'=>hK'.out _ _ hS' fun _=>?_);rw [ha,Act.put_comm a q u (fun d h e=>hd (by cases h;cases e;rfl)),Array.setIfInBounds_comm _ _ (Ne.symm hij)];exact rest u q W' hS' hR'
abbrev Sk:=List Nat×Option Nat×List Nat
def skO (md:Region.Mode) (ops:Array Oper) (o:Oper):Sk:=((o.after.toList.filter (Region.binds md)).map (·.on),o.dst,o.looksAt ops)
def sk (md:Region.Mode) (ops:Array Oper):List Sk:=ops.toList.map (skO md ops)
def Jbk (T:List Sk) (l:List Bool):List Nat:=(List.range T.length).filter fun i=>!l.getD i true&&((T[i]?).map fun t=>t.1.all fun e=>l.getD e false).getD false
def Qd2 (x y:Sk):Bool:=(match x.2.1 with | some d=>!y.2.2.contains d&&y.2.1 != some d | none=>true)&&(match y.2.1 with | some d=>!x.2.2.contains d | none=>true)
def Jpd (T:List Sk) (l:List Bool) (i:Nat):Bool :=
 match T[i]? with
 | none=>false
 | some ti=>(List.range T.length).all fun j=>j==i || l.getD j true || match T[j]? with
   | some tj=>tj.1.contains i || Qd2 ti tj
   | none=>true
theorem J4u (md:Region.Mode) (ops:Array Oper) (i:Nat):(sk md ops)[i]?=(ops[i]?).map (skO md ops):=by
 unfold sk;rw [List.getElem?_map,Array.getElem?_toList]
theorem J7u (md:Region.Mode) (ops:Array Oper):(sk md ops).length=ops.size:=by unfold sk;rw [Pq,Array.length_toList]
theorem Jjj (l:List Bool) (i:Nat) (b:Bool):l.toArray.getD i b=l.getD i b:=by simp [Array.getD_eq_getD_getElem?,List.getD_eq_getElem?_getD]
theorem Jcu (md:Region.Mode) (ops:Array Oper) (l:List Bool):Region.ready md ops l.toArray=Jbk (sk md ops) l:=by
 unfold Region.ready Jbk;rw [J7u];congr 1;funext i
 rw [J4u,Jjj];congr 1;cases ops[i]? with
 | none=>rfl
 | some o =>
  show (o.after.all fun e=>!Region.binds md e || l.toArray.getD e.on false)=((o.after.toList.filter (Region.binds md)).map (·.on)).all fun e=>l.getD e false
  rw [Bool.eq_iff_iff,Array.all_eq_true_iff_forall_mem,List.all_eq_true];simp only [List.mem_map,List.mem_filter,Array.mem_toList_iff,Bool.or_eq_true,Bool.not_eq_true',Jjj];constructor
  ·rintro h _ ⟨e,⟨he,hb⟩,rfl⟩
   rcases h e he with h1 | h1
   ·rw [hb] at h1;cases h1
   ·exact h1
  ·intro h e he
   cases hb:Region.binds md e with
   | false=>exact .inl rfl
   | true=>exact .inr (h _ ⟨e,⟨he,hb⟩,rfl⟩)
theorem J0p {md:Region.Mode} {ops:Array Oper} {l:List Bool} {i:Nat} (h:Jpd (sk md ops) l i=true):Region.free md ops l.toArray i=true:=by
 unfold Jpd at h;rw [J4u,J7u] at h;unfold Region.free;cases hi:ops[i]? with
 | none=>rw [hi] at h;exact h
 | some oi =>
  rw [hi] at h;simp only [Option.map_some] at h;simp only;rw [List.all_eq_true] at h ⊢;intro j hj;have h1:=h j hj;rw [Jjj];rw [J4u] at h1;cases hoj:ops[j]? with
  | none=>simp
  | some oj =>
   rw [hoj] at h1;simp only [Option.map_some] at h1;rw [Bool.or_eq_true] at h1 ⊢;rcases h1 with h1 | h1
   ·exact .inl h1
   ·right
    simp only;rw [Bool.or_eq_true] at h1 ⊢;rcases h1 with h1 | h1
    ·left
     unfold skO at h1;rw [List.contains_iff_mem] at h1;obtain⟨e,he,hon⟩:=List.mem_map.1 h1;obtain⟨he1,he2⟩:=List.mem_filter.1 he;rw [Array.any_eq_true'];exact⟨e,Array.mem_toList_iff.1 he1,by rw [he2,hon];simp⟩
    ·right
     exact h1
def Jbm (N m:Nat):List Bool:=(List.range N).map fun j=>m.testBit j
def wpT (P:Program) (md:Region.Mode) (ops:Array Oper) (Q:Exit→Act→World→Prop) (S:World→Prop) (T:List Sk) (fuel:Nat) (l:List Bool) (a:Act) (w:World):Prop:=sk md ops=T→Region.noSelect ops=true→wpAnyH P md ops Q S fuel l.toArray a w
section
variable {P:Program} {md:Region.Mode} {ops:Array Oper} {Q:Exit→Act→World→Prop} {S:World→Prop} {T:List Sk} {fuel:Nat} {l:List Bool} {a:Act} {w:World}
theorem Jbg {id:Nat} (T:List Sk) (N:Nat) (hT:sk .any ops=T) (hsel:Region.noSelect ops=true) (hN:ops.size=N) (hm:P.follows .mixedOrders=true) (l:List Bool) (hl:List.replicate N false=l) (hS:S w.drew) (h:S w.drew→wpT P .any ops Q S T N l a w.drew):(Code.region id ops true).wp P Q a w :=
 wp_region_held_drew hm hS fun h0=>by
  have:=h h0 hT hsel;subst hN;subst hl;rw [List.toArray_replicate] at this;exact this
theorem Jcv (l:List Bool) (i:Nat):l.toArray.setIfInBounds i true=(l.set i true).toArray:=by rw [List.setIfInBounds_toArray]
theorem takeT {i:Nat} {oi:Oper} {v:Value} {a':Act} (d:Nat) (l':List Bool) (hl:l.set i true=l') (hi:ops[i]?=some oi) (hd:oi.dst=some d) (hc:(Jpd T l i&&(Jbk T l).contains i)=true)
  (hQ:∀c a w,Q (.panic c) (a.put (some d) v) w→Q (.panic c) a w) (hy:YieldsIf P ops S oi v a) (hS:S w) (ha:a.put (some d) v=a')
  (h:wpT P md ops Q S T fuel l' a' w):wpT P md ops Q S T (fuel+1) l a w:=fun h1 h2=>by
 rw [Bool.and_eq_true] at hc;subst ha;subst hl;refine takeH d hi hd h2 (J0p (by rw [h1];exact hc.1)) (by rw [Jcu,h1];exact hc.2) hQ hy hS ?_;rw [Jcv];exact h h1 h2
theorem oneT {i:Nat} {oi:Oper} (l':List Bool) (hl:l.set i true=l') (hr:Jbk T l=[i]) (hi:ops[i]?=some oi) (wi:Region.wanted oi (yielded ops a.tmps)=true)
  (h:∀K:Act→World→Prop,Shut (∀a w,S w→(S w→wpT P md ops Q S T fuel l' a w)→K a w)→Oper.wp P oi a w K Q):wpT P md ops Q S T (fuel+1) l a w:=fun h1 h2=>by
 subst hl;refine oneH Wo hi wi fun K hK=>h K fun a w hS hW=>hK.out a w hS fun hS=>?_
 rw [Jcv];exact hW hS h1 h2
theorem twoT {i j:Nat} {oi oj:Oper} (di dj:Nat) (l':List Bool) (hl:(l.set i true).set j true=l') (hr:Jbk T l=[i,j]) (hri:Jbk T (l.set i true)=[j]) (hrj:Jbk T (l.set j true)=[i]) (hij:i≠j) (hi:ops[i]?=some oi) (hj:ops[j]?=some oj)
  (wi:Region.wanted oi (yielded ops a.tmps)=true) (wj:Region.wanted oj (yielded ops a.tmps)=true) (wi':∀q,Region.wanted oi (yielded ops (a.put (some dj) q).tmps)=true) (wj':∀u,Region.wanted oj (yielded ops (a.put (some di) u).tmps)=true) (hd:di≠dj)
  (R:World→Value→Value→Prop) (Ri Rj:World→Value→Prop)
  (c1:∀K:Act→World→Prop,Shut (∀a' u W',a'=a.put (some di) u→S W'→Ri W' u→K a' W')→Oper.wp P oi a w K Q)
  (c2:∀u W,S W→Ri W u→∀K:Act→World→Prop,Shut (∀a' q W',a'=(a.put (some di) u).put (some dj) q→S W'→R W' u q→K a' W')→Oper.wp P oj (a.put (some di) u) W K Q)
  (c3:∀K:Act→World→Prop,Shut (∀a' q W',a'=a.put (some dj) q→S W'→Rj W' q→K a' W')→Oper.wp P oj a w K Q)
  (c4:∀q W,S W→Rj W q→∀K:Act→World→Prop,Shut (∀a' u W',a'=(a.put (some dj) q).put (some di) u→S W'→R W' u q→K a' W')→Oper.wp P oi (a.put (some dj) q) W K Q)
  (rest:∀u q W,S W→R W u q→wpT P md ops Q S T fuel l' ((a.put (some di) u).put (some dj) q) W):wpT P md ops Q S T (fuel+1+1) l a w:=fun h1 h2=>by
 subst hl;refine Jvy di dj Wo (by rw [Jcv,Jcu,h1];exact hri) (by rw [Jcv,Jcu,h1];exact hrj) hij hi hj wi wj wi' wj' hd R Ri Rj c1 c2 c3 c4 fun u q W hS hR=>?_
 rw [Jcv,Jcv];exact rest u q W hS hR h1 h2
theorem J4v {oi:Oper} {f:FuncId} {vals:Array Value} {K:Act→World→Prop} {R:Value→World→Prop} (d:Nat) (hd:oi.dst=some d) (hrun:(execOp a.eval oi).run P w=.ok (.enter f vals) w)
  (C:Calls P f vals w fun e w'=>∃u,e=.returned u∧R u w') (h:∀u w',R u w'→K (a.put (some d) u) w'):Oper.wp P oi a w K Q:=by
 unfold Oper.wp;rw [hrun,Oper.upon_enter];refine C.mono fun e w' hh=>?_
 obtain⟨u,rfl,hR⟩:=hh;rw [hd];exact h u w' hR
theorem Jjk {oi:Oper} {v:Value} {w':World} {K:Act→World→Prop} (d:Nat) (hd:oi.dst=some d) (hrun:(execOp a.eval oi).run P w=.ok (.value v) w') (h:K (a.put (some d) v) w'):Oper.wp P oi a w K Q:=by
 unfold Oper.wp;rw [hrun,Oper.upon_value,hd];exact h
theorem Jb6 {i:Nat} {oi:Oper} {f:FuncId} {vals:Array Value} {R:Value→World→Prop} (d:Nat) (l':List Bool) (hl:l.set i true=l') (hr:Jbk T l=[i]) (hi:ops[i]?=some oi) (hd:oi.dst=some d) (wi:Region.wanted oi (yielded ops a.tmps)=true)
  (hrun:(execOp a.eval oi).run P w=.ok (.enter f vals) w) (C:Calls P f vals w fun e w'=>∃u,e=.returned u∧R u w') (h:∀u w',R u w'→S w'∧wpT P md ops Q S T fuel l' (a.put (some d) u) w'):wpT P md ops Q S T (fuel+1) l a w :=
 oneT l' hl hr hi wi fun _ hK=>J4v d hd hrun C fun u w' hR=>hK.out _ _ (h u w' hR).1 fun _=>(h u w' hR).2
theorem Je1 {i:Nat} {oi:Oper} {v:Value} {w':World} {a':Act} (d:Nat) (l':List Bool) (hl:l.set i true=l') (hr:Jbk T l=[i]) (hi:ops[i]?=some oi) (hd:oi.dst=some d) (wi:Region.wanted oi (yielded ops a.tmps)=true)
  (hrun:(execOp a.eval oi).run P w=.ok (.value v) w') (hS:S w') (ha:a.put (some d) v=a') (h:wpT P md ops Q S T fuel l' a' w'):wpT P md ops Q S T (fuel+1) l a w :=
 oneT l' hl hr hi wi fun _ hK=>Jjk d hd hrun (hK.out _ _ hS fun _=>by rw [ha];exact h)
theorem Jcf (hr:Jbk T l=[]) (h:Q .normal a w):wpT P md ops Q S T fuel l a w:=fun h1 _=>wpAnyH_done Wo h fuel
end
inductive Takes (P:Program) (ops:Array Oper) (S:World→Prop):Act→List (Nat×Nat×Value)→Act→Prop
 | nil {a:Act}:Takes P ops S a [] a
 | cons {a a':Act} {i d:Nat} {v:Value} {r:List (Nat×Nat×Value)} {oi:Oper} (hi:ops[i]?=some oi) (hd:oi.dst=some d) (hy:YieldsIf P ops S oi v a) (h:Takes P ops S (a.put (some d) v) r a'):Takes P ops S a ((i,d,v)::r) a'
theorem Takes.p {P:Program} {ops:Array Oper} {S:World→Prop} {a a':Act} {i d:Nat} {v:Value} {r:List (Nat×Nat×Value)} {oi:Oper} (hi:ops[i]?=some oi) (hd:oi.dst=some d) (hw:Region.wanted oi (yielded ops a.tmps)=true) (hv:∀w,(execOp a.eval oi).run P w=.ok (.value v) w) (h:Takes P ops S (a.put (some d) v) r a'):Takes P ops S a ((i,d,v)::r) a':=.cons hi hd (.inl ⟨hw,fun w _=>hv w⟩) h
theorem Takes.q {P:Program} {ops:Array Oper} {S:World→Prop} {a a':Act} {i d:Nat} {v:Value} {r:List (Nat×Nat×Value)} {oi:Oper} (h:Takes P ops S (a.put (some d) v) r a') (hi:ops[i]?=some oi:=by rfl) (hd:oi.dst=some d:=by rfl) (hw:Region.wanted oi (yielded ops a.tmps)=true:=by rfl) (hv:∀w,(execOp a.eval oi).run P w=.ok (.value v) w:=by intro;kernel_rfl):Takes P ops S a ((i,d,v)::r) a':=.p hi hd hw hv h
def Jpe (T:List Sk):List Bool→List Nat→Bool
 | _,[]=>true
 | l,i::r=>Jpd T l i&&(Jbk T l).contains i&&Jpe T (l.set i true) r
def Jvz:List Bool→List Nat→List Bool
 | l,[]=>l
 | l,i::r=>Jvz (l.set i true) r
section
variable {P:Program} {md:Region.Mode} {ops:Array Oper} {Q:Exit→Act→World→Prop} {S:World→Prop} {T:List Sk} {fuel:Nat}
theorem Jbc {L:List (Nat×Nat×Value)} {a a':Act} (hT:Takes P ops S a L a'):∀{l l':List Bool} {w:World} (I:List Nat) (_:L.map (fun x=>x.1)=I) (_:Jvz l I=l') (_:Jpe T l I=true) (_:∀c a d v w,Q (.panic c) (Act.put a (some d) v) w→Q (.panic c) a w) (_:S w) (_:wpT P md ops Q S T fuel l' a' w),wpT P md ops Q S T (fuel+I.length) l a w:=by
 induction hT with
 | nil =>
  intro l l' w I hI hl hb hQ hS h;subst hI;subst hl;exact h
 | @cons a a' i d v r oi hi hd hy hr ih =>
  intro l l' w I hI hl hb hQ hS h;subst hI;have hb':(Jpd T l i&&(Jbk T l).contains i)=true∧Jpe T (l.set i true) (r.map fun x=>x.1)=true:=by
   have e:Jpe T l (i::r.map fun x=>x.1)=(Jpd T l i&&(Jbk T l).contains i&&Jpe T (l.set i true) (r.map fun x=>x.1)):=rfl;simp only [List.map_cons] at hb;rw [e,Bool.and_eq_true] at hb;exact hb
  simp only [List.map_cons] at hl ⊢;have k:=ih _ rfl hl hb'.2 hQ hS h;rw [List.length_cons,←Nat.add_assoc];exact takeT d _ rfl hi hd hb'.1 (fun c a w=>hQ c a d v w) hy hS rfl k
end
inductive Runs (P:Program) (ops:Array Oper) (S:World→Prop) (dj:Nat) (v:World→Value) (m:World→World) (L:Value→World→Prop):(World→Prop)→Act→List Nat→Act→(World→Prop)→Prop
 | nil {G:World→Prop} {a:Act} (k:∀W,G W→G (m W)∧L (v W) (m W)) (s:∀W,G W→S W):Runs P ops S dj v m L G a [] a G
 | cons {G G1 G':World→Prop} {a a':Act} {i:Nat} {r:List Nat} {o:Oper} (d:Nat) {f:FuncId} {x:Array Value} (u:Value) (hi:ops[i]?=some o) (hd:o.dst=some d) (hne:dj≠d) (w:∀b:Act,Region.wanted o (yielded ops b.tmps)=true)
   (r0:∀W,(execOp a.eval o).run P W=.ok (.enter f x) W) (r1:∀q W,(execOp (a.put (some dj) q).eval o).run P W=.ok (.enter f x) W)
   (c:∀W,G W→Calls P f x W fun e W'=>e=.returned u∧G1 W'∧∀q,L q W→L q W') (k:∀W,G W→G (m W)∧L (v W) (m W)) (s:∀W,G W→S W)
   (h:Runs P ops S dj v m L G1 (a.put (some d) u) r a' G'):Runs P ops S dj v m L G a (i::r) a' G'
 | step {G G':World→Prop} {a a':Act} {i:Nat} {r:List Nat} {o:Oper} (d:Nat) (u:Value) (hi:ops[i]?=some o) (hd:o.dst=some d) (hne:dj≠d) (w:∀b:Act,Region.wanted o (yielded ops b.tmps)=true)
   (r0:∀W,(execOp a.eval o).run P W=.ok (.value u) W) (r1:∀q W,(execOp (a.put (some dj) q).eval o).run P W=.ok (.value u) W) (k:∀W,G W→G (m W)∧L (v W) (m W)) (s:∀W,G W→S W)
   (h:Runs P ops S dj v m L G (a.put (some d) u) r a' G'):Runs P ops S dj v m L G a (i::r) a' G'
def Jq8 (T:List Sk) (j:Nat):List Bool→List Nat→Bool
 | l,[]=>Jbk T l==[j]
 | l,i::r=>(Jbk T l==[i,j])&&(Jbk T (l.set j true)==[i])&&(i != j)&&Jq8 T j (l.set i true) r
section
variable {P:Program} {md:Region.Mode} {ops:Array Oper} {Q:Exit→Act→World→Prop} {S:World→Prop} {T:List Sk} {fuel:Nat}
theorem altT {i j:Nat} {oi oj:Oper} {l:List Bool} {a:Act} {w:World} (hr:Jbk T l=[i,j]) (hi:ops[i]?=some oi) (hj:ops[j]?=some oj) (wi:Region.wanted oi (yielded ops a.tmps)=true) (wj:Region.wanted oj (yielded ops a.tmps)=true)
  (Hi:∀K:Act→World→Prop,Shut (∀a w,S w→wpT P md ops Q S T fuel (l.set i true) a w→K a w)→Oper.wp P oi a w K Q)
  (Hj:∀K:Act→World→Prop,Shut (∀a w,S w→wpT P md ops Q S T fuel (l.set j true) a w→K a w)→Oper.wp P oj a w K Q):wpT P md ops Q S T (fuel+1) l a w:=fun h1 h2=>by
 have hrr:Region.ready md ops l.toArray=[i,j]:=Wo;refine wpAnyH_ready hrr Kj (AllReadyH.cons hi (fun K hK=>?_) (AllReadyH.cons hj (fun K hK=>?_) AllReadyH.nil))
 ·rw [if_pos wi]
  exact Hi K (fun a w hS hW=>hK.out _ _ hS fun _=>Ws)
 ·rw [if_pos wj]
  exact Hj K (fun a w hS hW=>hK.out _ _ hS fun _=>Ws)
variable {j dj:Nat} {oj:Oper} {v:World→Value} {m:World→World} {L:Value→World→Prop}
theorem Runs.world {G G':World→Prop} {a a':Act} {I:List Nat} (h:Runs P ops S dj v m L G a I a' G') {w:World} (hG:G w):S w:=by
 cases h with
 | nil k s=>exact s _ hG
 | cons d u hi hd hne tw r0 r1 c k s h=>exact s _ hG
 | step d u hi hd hne tw r0 r1 k s h=>exact s _ hG
theorem Jpf {G G':World→Prop} {a a':Act} {I:List Nat} (h:Runs P ops S dj v m L G a I a' G'):∀{l:List Bool} {w:World} (q:Value) (_:Jq8 T j l I=true) (_:G w) (_:L q w) (_:∀q W,G' W→L q W→wpT P md ops Q S T fuel ((Jvz l I).set j true) (a'.put (some dj) q) W),wpT P md ops Q S T (fuel+I.length) (l.set j true) (a.put (some dj) q) w:=by
 induction h with
 | nil k s=>intro l w q _ hG hL hr;exact hr q w hG hL
 | @cons G G1 G' a a' i r o d f x u hi hd hne tw r0 r1 c k s hh ih =>
  intro l w q hb hG hL hr;unfold Jq8 at hb;rw [Bool.and_eq_true,Bool.and_eq_true,Bool.and_eq_true] at hb;obtain⟨⟨⟨b0,b1⟩,b2⟩,b3⟩:=hb;rw [List.length_cons,←Nat.add_assoc];refine oneT _ rfl (eq_of_beq b1) hi (tw _) fun K hK=>?_
  refine J4v (R:=fun u' W'=>u'=u∧G1 W'∧∀q,L q w→L q W') d hd (r1 q w) ((c w hG).mono fun e w' h=>⟨_,h.1,rfl,h.2⟩) fun u' w' hR=>?_
  obtain⟨rfl,hG1,hk⟩:=hR;refine hK.out _ _ (hh.world hG1) fun _=>?_
  rw [Act.put_comm a q u' (fun d' h e=>hne (by cases h;cases e;rfl)),List.set_comm _ _ (Ne.symm (by simpa using b2))];exact ih q b3 hG1 (hk q hL) hr
 | @step G G' a a' i r o d u hi hd hne tw r0 r1 k s hh ih =>
  intro l w q hb hG hL hr;unfold Jq8 at hb;rw [Bool.and_eq_true,Bool.and_eq_true,Bool.and_eq_true] at hb;obtain⟨⟨⟨b0,b1⟩,b2⟩,b3⟩:=hb;rw [List.length_cons,←Nat.add_assoc];refine oneT _ rfl (eq_of_beq b1) hi (tw _) fun K hK=>Jjk d hd (r1 q w) (hK.out _ _ (s _ hG) fun _=>?_)
  rw [Act.put_comm a q u (fun d' h e=>hne (by cases h;cases e;rfl)),List.set_comm _ _ (Ne.symm (by simpa using b2))];exact ih q b3 hG hL hr
theorem Jjl {G G':World→Prop} {a a':Act} {I:List Nat} (h:Runs P ops S dj v m L G a I a' G') (hj:ops[j]?=some oj) (ej:oj.dst=some dj) (tj:∀b:Act,Region.wanted oj (yielded ops b.tmps)=true) (rj:∀(b:Act) (W:World),(execOp b.eval oj).run P W=.ok (.value (v W)) (m W)) :
  ∀{l l':List Bool} {w:World} (_:(Jvz l I).set j true=l') (_:Jq8 T j l I=true) (_:G w) (_:∀q W,G' W→L q W→wpT P md ops Q S T fuel l' (a'.put (some dj) q) W),wpT P md ops Q S T (fuel+(I.length+1)) l a w:=by
 induction h with
 | nil k s =>
  intro l l' w hl hb hG hr;refine oneT _ hl (eq_of_beq hb) hj (tj _) fun K hK=>Jjk dj ej (rj _ w) ?_
  exact hK.out _ _ (s _ (k _ hG).1) fun _=>hr _ _ (k _ hG).1 (k _ hG).2
 | @cons G G1 G' a a' i r o d f x u hi hd hne tw r0 r1 c k s hh ih =>
  intro l l' w hl hb hG hr;have hb0:=hb;unfold Jq8 at hb;rw [Bool.and_eq_true,Bool.and_eq_true,Bool.and_eq_true] at hb;obtain⟨⟨⟨b0,b1⟩,b2⟩,b3⟩:=hb;subst hl;have key:wpT P md ops Q S T (fuel+(r.length+1)+1) l a w:=by
   refine altT (eq_of_beq b0) hi hj (tw _) (tj _) (fun K hK=>?_) (fun K hK=>?_)
   ·refine J4v (R:=fun u' W'=>u'=u∧G1 W'∧∀q,L q w→L q W') d hd (r0 w) ((c w hG).mono fun e w' h=>⟨_,h.1,rfl,h.2⟩) fun u' w' hR=>?_
    obtain⟨rfl,hG1,-⟩:=hR;exact hK.out _ _ (hh.world hG1) (ih rfl b3 hG1 hr)
   ·refine Jjk dj ej (rj a w) (hK.out _ _ (s _ (k _ hG).1) ?_)
    exact Jpf (I:=i::r) (Runs.cons d u hi hd hne tw r0 r1 c k s hh) _ hb0 (k _ hG).1 (k _ hG).2 hr
  exact key
 | @step G G' a a' i r o d u hi hd hne tw r0 r1 k s hh ih =>
  intro l l' w hl hb hG hr;have hb0:=hb;unfold Jq8 at hb;rw [Bool.and_eq_true,Bool.and_eq_true,Bool.and_eq_true] at hb;obtain⟨⟨⟨b0,b1⟩,b2⟩,b3⟩:=hb;subst hl;have key:wpT P md ops Q S T (fuel+(r.length+1)+1) l a w:=by
   refine altT (eq_of_beq b0) hi hj (tw _) (tj _) (fun K hK=>?_) (fun K hK=>?_)
   ·exact Jjk d hd (r0 w) (hK.out _ _ (s _ hG) (ih rfl b3 hG hr))
   ·refine Jjk dj ej (rj a w) (hK.out _ _ (s _ (k _ hG).1) ?_)
    exact Jpf (I:=i::r) (Runs.step d u hi hd hne tw r0 r1 k s hh) _ hb0 (k _ hG).1 (k _ hG).2 hr
  exact key
end
section
variable {P:Program} {ops:Array Oper} {Q:Exit→Act→World→Prop} {md:Region.Mode} {S:World→Prop} {z:Nat}
def Jk9 (P:Program) (md:Region.Mode) (ops:Array Oper) (Q:Exit→Act→World→Prop) (S:World→Prop) (z:Nat):Nat→Array Bool→Act→World→Prop
 | 0,listed,a,w=>Region.ready md ops listed=[]∧Q .normal a w
 | fuel+1,listed,a,w =>
  (Region.ready md ops listed=[]→Q .normal a w) ∧
  ∀i∈Region.ready md ops listed,wpOp P ops Q i (fun a' w'=>(i≠z→S w')∧Jk9 P md ops Q S z fuel (listed.setIfInBounds i true) a' w') a w
theorem Jla:∀(fuel:Nat) (listed:Array Bool) (a:Act) (w:World),Jk9 P md ops Q S z fuel listed a w→wpAny P md ops Q fuel listed a w
 | 0,_,_,_,h=>h
 | fuel+1,_,_,_,h=>⟨h.1,fun i hi=>wpOp_mono (fun a' w' h'=>Jla fuel _ a' w' h'.2) (h.2 i hi)⟩
theorem Jpg {i:Nat} {oi oz:Oper} {v:Value} (hi:ops[i]?=some oi) (hsel:∀(j:Nat) (o:Oper) cs b,ops[j]?=some o→o.op≠.select cs b)
  (hQ:∀c a w,Q (.panic c) (a.put oi.dst v) w→Q (.panic c) a w) (hz:ops[z]?=some oz) (hw:∃e∈oz.after,Region.binds md e=true∧e.on=i) (hne:i≠z) :
  ∀(fuel:Nat) (listed:Array Bool) (a:Act) (w:World),
   (∀j oj,ops[j]?=some oj→j≠i→listed.getD j true=false→(∀e∈oj.after,Region.binds md e=true→e.on≠i)→oi.apart ops oj=true) →
   i∈Region.ready md ops listed→YieldsIf P ops S oi v a→S w →
   Jk9 P md ops Q S z fuel (listed.setIfInBounds i true) (a.put oi.dst v) w→Jk9 P md ops Q S z (fuel+1) listed a w:=by
 intro fuel;induction fuel with
 | zero =>
  intro listed a w _ hr hy hS H;refine⟨fun h=>(by rw [h] at hr;cases hr),fun j hj=>?_⟩;by_cases hji:j=i
  ·subst hji;exact hy.wpOp hi hS ⟨fun _=>hS,H⟩
  ·have:=ready_mono hj hji
   rw [H.1] at this;cases this
 | succ fuel ih =>
  intro listed a w hfree hr hy hS H;refine⟨fun h=>(by rw [h] at hr;cases hr),fun j hj=>?_⟩;by_cases hji:j=i
  ·subst hji;exact hy.wpOp hi hS ⟨fun _=>hS,H⟩
  ·have h1:=H.2 j (ready_mono hj hji)
   obtain⟨hjun,oj,hoj,hall⟩:=mem_ready.1 hj;have hnot:∀e∈oj.after,Region.binds md e=true→e.on≠i:=fun e he hb heq=>by
    have h1:=hall e he hb;have h0:=(mem_ready.1 hr).1;rw [heq] at h1;rcases Nat.lt_or_ge i listed.size with h' | h'
    ·simp [h'] at h0 h1;rw [h0] at h1;cases h1
    ·simp [Array.getElem?_eq_none h'] at h1
   have hjz:j≠z:=fun e=>by
    subst e;rw [hz] at hoj;cases hoj;obtain⟨e,he,hb,heq⟩:=hw;exact hnot e he hb heq
   have h2:=wpOp_putIf hoj (hfree j oj hoj hji hjun hnot) (fun cs b=>hsel i oi cs b hi) (fun cs b=>hsel j oj cs b hoj) hQ hy h1;have hfree':∀k ok,ops[k]?=some ok→k≠i→(listed.setIfInBounds j true).getD k true=false →
     (∀e∈ok.after,Region.binds md e=true→e.on≠i)→oi.apart ops ok=true:=fun k ok hk hki hun hno=>by
    refine hfree k ok hk hki ?_ hno;by_cases hjk:j=k
    ·subst hjk;exact hjun
    ·rw [getD_set_ne true hjk] at hun;exact hun
   refine wpOp_mono (fun a' w' h3=>⟨fun _=>h3.2.1 hjz,ih (listed.setIfInBounds j true) a' w' hfree' (ready_mono hr (Ne.symm hji)) h3.1 (h3.2.1 hjz) ?_⟩) h2;rw [Array.setIfInBounds_comm _ _ hji];exact h3.2.2
theorem Jq9 {listed:Array Bool} {a:Act} {w:World} (hr:Region.ready md ops listed=[]) (h:Q .normal a w):∀fuel,Jk9 P md ops Q S z fuel listed a w
 | 0=>⟨hr,h⟩
 | _+1=>⟨fun _=>h,by rw [hr];simp⟩
end
def wpZ (P:Program) (md:Region.Mode) (ops:Array Oper) (Q:Exit→Act→World→Prop) (S:World→Prop) (z:Nat) (T:List Sk) (fuel:Nat) (l:List Bool) (a:Act) (w:World):Prop:=sk md ops=T→Region.noSelect ops=true→Jk9 P md ops Q S z fuel l.toArray a w
section
variable {P:Program} {md:Region.Mode} {ops:Array Oper} {Q:Exit→Act→World→Prop} {S:World→Prop} {z:Nat} {T:List Sk} {fuel:Nat} {l:List Bool} {a:Act} {w:World}
theorem Jeg {id:Nat} (T:List Sk) (N z:Nat) (hT:sk .any ops=T) (hsel:Region.noSelect ops=true) (hN:ops.size=N) (hm:P.follows .mixedOrders=true) (l:List Bool) (hl:List.replicate N false=l) (h:wpZ P .any ops Q S z T N l a w.drew):(Code.region id ops true).wp P Q a w :=
 wp_region_any hm (Jla _ _ _ _ (by
  have:=h hT hsel;subst hN;subst hl;rw [List.toArray_replicate] at this;exact this))
theorem J4w {i:Nat} {oz:Oper} (hz:ops[z]?=some oz) (h:(((sk md ops)[z]?).map fun t=>t.1.contains i).getD false=true):∃e∈oz.after,Region.binds md e=true∧e.on=i:=by
 rw [J4u,hz] at h;simp only [Option.map_some,Option.getD_some] at h;unfold skO at h;rw [List.contains_iff_mem] at h;obtain⟨e,he,hon⟩:=List.mem_map.1 h;obtain⟨he1,he2⟩:=List.mem_filter.1 he;exact⟨e,Array.mem_toList_iff.1 he1,he2,hon⟩
theorem takeZ {i:Nat} {oi oz:Oper} {v:Value} {a':Act} (d:Nat) (l':List Bool) (hl:l.set i true=l') (hi:ops[i]?=some oi) (hz:ops[z]?=some oz) (hd:oi.dst=some d) (hc:(Jpd T l i&&(Jbk T l).contains i&&((T[z]?).map fun t=>t.1.contains i).getD false&&(i != z))=true)
  (hQ:∀c a w,Q (.panic c) (a.put (some d) v) w→Q (.panic c) a w) (hy:YieldsIf P ops S oi v a) (hS:S w) (ha:a.put (some d) v=a')
  (h:wpZ P md ops Q S z T fuel l' a' w):wpZ P md ops Q S z T (fuel+1) l a w:=fun h1 h2=>by
 rw [Bool.and_eq_true,Bool.and_eq_true,Bool.and_eq_true] at hc;subst ha;subst hl;refine Jpg hi (Region.noSelect_spec h2) (by rw [hd];exact hQ) hz (J4w hz (by rw [h1];exact hc.1.2)) (by simpa using hc.2) fuel l.toArray a w (Region.free_spec hi (J0p (by rw [h1];exact hc.1.1.1))) (by rw [Jcu,h1];exact List.contains_iff_mem.1 hc.1.1.2) hy hS ?_;rw [Jcv,hd];exact h h1 h2
theorem oneZ {i:Nat} {oi:Oper} (l':List Bool) (hl:l.set i true=l') (hr:Jbk T l=[i]) (hi:ops[i]?=some oi) (wi:Region.wanted oi (yielded ops a.tmps)=true)
  (h:∀K:Act→World→Prop,Shut (∀a w,(i≠z→S w)→wpZ P md ops Q S z T fuel l' a w→K a w)→Oper.wp P oi a w K Q):wpZ P md ops Q S z T (fuel+1) l a w:=fun h1 h2=>by
 subst hl;have hrr:Region.ready md ops l.toArray=[i]:=Wo;refine⟨fun h0=>(by rw [hrr] at h0;cases h0),fun j hj=>?_⟩;rw [hrr] at hj;have e:j=i:=Xg;subst e;refine wpOp_step hi (fun K' hK=>?_);rw [if_pos wi];exact h K' (fun a w hS hW=>hK a w ⟨hS,Ws⟩)
theorem Qd3 {i:Nat} {oi:Oper} {f:FuncId} {vals:Array Value} {R:Value→World→Prop} (d:Nat) (l':List Bool) (hl:l.set i true=l') (hr:Jbk T l=[i]) (hi:ops[i]?=some oi) (hd:oi.dst=some d) (wi:Region.wanted oi (yielded ops a.tmps)=true)
  (hrun:(execOp a.eval oi).run P w=.ok (.enter f vals) w) (C:Calls P f vals w fun e w'=>∃u,e=.returned u∧R u w') (h:∀u w',R u w'→S w'∧wpZ P md ops Q S z T fuel l' (a.put (some d) u) w'):wpZ P md ops Q S z T (fuel+1) l a w :=
 oneZ l' hl hr hi wi fun _ hK=>J4v d hd hrun C fun u w' hR=>hK.out _ _ (fun _=>(h u w' hR).1) (h u w' hR).2
theorem Jc5 {i:Nat} {oi:Oper} {v:Value} {w':World} {a':Act} (d:Nat) (l':List Bool) (hl:l.set i true=l') (hr:Jbk T l=[i]) (hi:ops[i]?=some oi) (hd:oi.dst=some d) (wi:Region.wanted oi (yielded ops a.tmps)=true)
  (hrun:(execOp a.eval oi).run P w=.ok (.value v) w') (hS:S w') (ha:a.put (some d) v=a') (h:wpZ P md ops Q S z T fuel l' a' w'):wpZ P md ops Q S z T (fuel+1) l a w :=
 oneZ l' hl hr hi wi fun _ hK=>Jjk d hd hrun (hK.out _ _ (fun _=>hS) (by rw [ha];exact h))
theorem Jeh {oi:Oper} {w':World} (l':List Bool) (hl:l.set z true=l') (hr:Jbk T l=[z]) (hi:ops[z]?=some oi) (hd:oi.dst=none) (wi:Region.wanted oi (yielded ops a.tmps)=true)
  (hrun:(execOp a.eval oi).run P w=.ok .skip w') (h:wpZ P md ops Q S z T fuel l' a w'):wpZ P md ops Q S z T (fuel+1) l a w :=
 oneZ l' hl hr hi wi fun _ hK=>by
  unfold Oper.wp;rw [hrun,Oper.upon_skip,hd];exact hK.out _ _ (fun k=>absurd rfl k) h
theorem Jhm (hr:Jbk T l=[]) (h:Q .normal a w):wpZ P md ops Q S z T fuel l a w:=fun h1 _=>Jq9 Wo h fuel
end
section
variable {P:Program} {md:Region.Mode} {ops:Array Oper} {Q:Exit→Act→World→Prop} {S:World→Prop} {T:List Sk} {fuel:Nat} {l:List Bool} {a:Act} {w:World} {z:Nat}
theorem Jdi {i:Nat} {oi:Oper} {w':World} (l':List Bool) (hl:l.set i true=l') (hr:Jbk T l=[i]) (hi:ops[i]?=some oi) (hd:oi.dst=none) (wi:Region.wanted oi (yielded ops a.tmps)=true)
  (hrun:(execOp a.eval oi).run P w=.ok .skip w') (hS:S w') (h:wpT P md ops Q S T fuel l' a w'):wpT P md ops Q S T (fuel+1) l a w :=
 oneT l' hl hr hi wi fun _ hK=>by
  unfold Oper.wp;rw [hrun,Oper.upon_skip,hd];exact hK.out _ _ hS fun _=>h
theorem Jaz {a:Act} {oi:Oper} {w:World} (ty:TypeId) (x:Operand) (ho:oi.op=.load ty x) (g:Nat) (hx:a.eval x=.pointer (some ⟨g,0,none⟩)) (t:TypeId) (cs:Array Value) (fr:Nat×Nat) (d:TypeDesc) (hg:w.heap[g]?=some (.cells cs t fr))
  (hu:P.underlying ty=some d) (hd:(match d with | .struct _ | .array _ _=>true | _=>false)=true) (hi:(P.info? ty).map (·.size)=some cs.size):(execOp a.eval oi).run P w=.ok (.value (.agg cs)) w:=by
 unfold execOp;simp only [ho,hx,Instr.loadAt,Instr.sureAddr,Sem.run_bind,Sem.run_pure,Result.andThen_ok,run_loadVar_row w g t ty cs fr d hg hu hd hi]
theorem Jau {a:Act} {oi:Oper} {w:World} (ty:TypeId) (x y:Operand) (ho:oi.op=.store ty x y) (g:Nat) (cells:Array Value) (hx:a.eval x=.pointer (some ⟨g,0,none⟩)) (hy:a.eval y=.agg cells)
  (t:TypeId) (old:Array Value) (hg:w.heap[g]?=some (.cells old t (0,0))) (hi:(P.info? ty).map (·.size)=some cells.size) (hold:old.size=cells.size) (h1:cells.all (·.oneCell')=true):(execOp a.eval oi).run P w=.ok .skip (w.setRow g cells):=by
 unfold execOp;simp only [ho,hx,hy,Instr.storeAt,Instr.sureAddr,Sem.run_bind,Sem.run_pure,Result.andThen_ok,run_storeVar_row w g t ty old cells hg hi hold h1]
def Jra (T:List Sk) (z:Nat):List Bool→List Nat→Bool
 | _,[]=>true
 | l,i::r=>(Jpd T l i&&(Jbk T l).contains i&&((T[z]?).map fun t=>t.1.contains i).getD false&&(i != z))&&Jra T z (l.set i true) r
theorem Jd6 {L:List (Nat×Nat×Value)} {a a':Act} {oz:Oper} (hz:ops[z]?=some oz) (hT:Takes P ops S a L a'):∀{l l':List Bool} {w:World} (I:List Nat) (_:L.map (fun x=>x.1)=I) (_:Jvz l I=l') (_:Jra T z l I=true) (_:∀c a d v w,Q (.panic c) (Act.put a (some d) v) w→Q (.panic c) a w) (_:S w) (_:wpZ P md ops Q S z T fuel l' a' w),wpZ P md ops Q S z T (fuel+I.length) l a w:=by
 induction hT with
 | nil =>
  intro l l' w I hI hl hb hQ hS h;subst hI;subst hl;exact h
 | @cons a a' i d v r oi hi hd hy hr ih =>
  intro l l' w I hI hl hb hQ hS h;subst hI;simp only [List.map_cons] at hb hl ⊢;unfold Jra at hb;rw [Bool.and_eq_true] at hb;rw [List.length_cons,←Nat.add_assoc];exact takeZ d _ rfl hi hz hd hb.1 (fun c a w=>hQ c a d v w) hy hS rfl (ih _ rfl hl hb.2 hQ hS h)
theorem skipZ {i:Nat} {oi:Oper} (d:Nat) (l':List Bool) (hl:l.set i true=l') (hr:Jbk T l=[i]) (hi:ops[i]?=some oi) (hd:oi.dst=some d) (wi:Region.wanted oi (yielded ops a.tmps)=false) (hS:S w) (h:wpZ P md ops Q S z T fuel l' (a.put (some d) undef) w):wpZ P md ops Q S z T (fuel+1) l a w:=fun h1 h2=>by
 subst hl;have hrr:Region.ready md ops l.toArray=[i]:=Wo;refine⟨fun h0=>(by rw [hrr] at h0;cases h0),fun j hj=>?_⟩;rw [hrr] at hj;have e:j=i:=Xg;subst e;refine wpOp_step hi (fun K' hK=>?_);rw [if_neg (by simp [wi]),hd];exact hK _ _ ⟨fun _=>hS,by rw [Jcv];exact h h1 h2⟩
def Qa0 (T:List Sk):List Bool→List Nat→Bool
 | _,[]=>true
 | l,i::r=>Jbk T l==[i]&&Qa0 T (l.set i true) r
theorem Jhy {w:World} {L:List (Nat×Nat×Value)} {a a':Act} (hT:Takes P ops (fun X=>X=w) a L a'):∀{l l':List Bool} (I:List Nat) (_:L.map (fun x=>x.1)=I) (_:Jvz l I=l') (_:Qa0 T l I=true) (_:S w) (_:wpZ P md ops Q S z T fuel l' a' w),wpZ P md ops Q S z T (fuel+I.length) l a w:=by
 induction hT with
 | nil =>
  intro l l' I hI hl hb hS h;subst hI;subst hl;exact h
 | @cons a a' i d v r oi hi hd hy hr ih =>
  intro l l' I hI hl hb hS h;subst hI;simp only [List.map_cons] at hb hl ⊢;unfold Qa0 at hb;rw [Bool.and_eq_true] at hb;rw [List.length_cons,←Nat.add_assoc];rcases hy with ⟨hw,hy⟩ | ⟨hw,hy⟩
  ·exact Jc5 d _ rfl (eq_of_beq hb.1) hi hd hw (hy w rfl) hS rfl (ih _ rfl hl hb.2 hS h)
  ·subst hy
   exact skipZ d _ rfl (eq_of_beq hb.1) hi hd hw hS (ih _ rfl hl hb.2 hS h)
end
theorem Ja7 {P:Program} {a:Act} {oi:Oper} {s x:Operand} {ST:TypeId} {v y v':Value} {w w':World} (ho:oi.op=.call { callee:=.builtin .append,args:=#[s,x],argTypes:=#[ST,ST] }) (hs:a.eval s=v) (hx:a.eval x=y) (hr:(Builtin.append_ #[ST,ST] oi.type #[v,y]).run P w=.ok v' w'):(execOp a.eval oi).run P w=.ok (.value v') w':=by
 unfold execOp;simp only [ho,resolve,invoke,builtin,Sem.run_bind,Sem.run_pure,Result.andThen_ok,List.map_toArray,List.map_cons,List.map_nil,hs,hx,hr]
theorem Gst.less {w0 W:World} {F:Nat} {T:TypeId} {vs:List Value} {ts:List Tng} {t:Tng} (h:Gst w0 F T vs (ts++[t]) W):Gst w0 F T vs ts W:=by
 have up:∀{i:Nat} {a:Tng},ts[i]?=some a→(ts++[t])[i]?=some a:=fun {i a} ha=>by rw [List.getElem?_append_left (Pl ha).1];exact ha
 exact⟨h.box,h.low,fun i a ha=>h.own i a (up ha),fun i a ha=>h.off i a (up ha),fun i j a b hij ha hb=>h.apart i j a b hij (up ha) (up hb),h.base⟩
def tObj (b:Nat) (o:Obj):Tng:=tBlk b fun W=>W.heap[b]?=some o
theorem tObj.at {base b:Nat} {o:Obj} {W:World} (h:W.heap[b]?=some o) (h0:base≤b):(tObj b o).At base W :=
 tBlk.at h h0 (Pm h).1 fun _ _ _ h1 hg hn=>(hg.block b (Pm h1).1 hn).trans h1
theorem Jei (W:World) (b:Nat) (cs:Array Value):W.grownBy (W.setRow b cs) (some b) :=
 ⟨rfl,rfl,rfl,Kj,fun k _ hne=>setRow_other W b k cs (fun e=>hne (by rw [e]))⟩
theorem Gst.boxed {w0 W w2:World} {F b:Nat} {T t:TypeId} {vs vs':List Value} {ts:List Tng} {old:Array Value} (R:Gst w0 F T vs ts W) (h:Gst w0 F T vs' ts w2) (hb0:W.heap.size≤b) (hb1:w2.heap[b]?=some (.cells old t (0,0))) (cs:Array Value):Gst w0 F T vs' (ts++[tObj b (.cells cs t (0,0))]) (w2.setRow b cs):=by
 have hF:b≠F:=by have:=R.lt;omega
 have key:∀(j:Nat) (a:Tng),(ts++[tObj b (.cells cs t (0,0))])[j]?=some a→ts[j]?=some a∨(j=ts.length∧a=tObj b (.cells cs t (0,0))):=by
  intro j a ha;rw [List.getElem?_append] at ha;split at ha
  ·exact .inl ha
  ·next hlt =>
   right
   rw [List.getElem?_singleton] at ha;split at ha
   ·next e=>cases ha;exact⟨Kd,rfl⟩
   ·cases ha
 have off:∀(j:Nat) (a:Tng),ts[j]?=some a→a.own≠some b:=fun j a ha e=>by have:=((R.own j a ha).lt b e).2;omega
 have gr:=Jei w2 b cs;refine⟨(gr.block F h.lt (fun e=>hF (Po e).symm)).trans h.box,h.low,fun j a ha=>?_,fun j a ha e=>?_,fun j m a c hjm ha hc=>?_,Jc8 h.base gr (fun k e=>by cases e;exact Nat.le_trans R.base.size hb0)⟩
 ·rcases key j a ha with h1 | ⟨-,rfl⟩
  ·exact (h.own j a h1).on gr (.inr (off j a h1))
  ·exact tObj.at (setRow_heap w2 b old cs t (0,0) hb1) (Nat.le_trans R.base.size hb0)
 ·rcases key j a ha with h1 | ⟨-,rfl⟩
  ·exact h.off j a h1 e
  ·exact hF (Po e)
 ·rcases key j a ha with h1 | ⟨e1,rfl⟩
  ·rcases key m c hc with h2 | ⟨-,rfl⟩
   ·exact h.apart j m a c hjm h1 h2
   ·exact fun k e1 e2=>off j a h1 (by rw [e1,←e2];rfl)
  ·rcases key m c hc with h2 | ⟨e2,-⟩
   ·exact fun k e1 e2=>off m c h2 (by rw [e2,←e1];rfl)
   ·omega
theorem Ja8 {ts:List Tng} {t x:Tng} {i:Nat} (h:ts[i]?=some x):(ts++[t])[i]?=some x:=by rw [List.getElem?_append_left (Pl h).1];exact h
theorem Gst.box_last {w0 W:World} {F b:Nat} {T:TypeId} {vs:List Value} {ts:List Tng} {o:Obj} (h:Gst w0 F T vs (ts++[tObj b o]) W):W.heap[b]?=some o:=(h.blk (i:=ts.length) (b:=b) (P:=fun W=>W.heap[b]?=some o) (by rw [List.getElem?_append_right Ph,Nat.sub_self];rfl)).1
theorem Jcg {W:World} {b i:Nat} {cs:List Value} {t:TypeId} {v:Value} (h:W.heap[b]?=some (.cells cs.toArray t (0,0))) (hv:cs[i]?=some v):W.cell? ⟨b,i,none⟩=some v:=by
 rw [cell_of_row _ _ _ _ _ _ h];simpa using hv
end
end Go.Proofs.YtpifdbphmnifdaaGreatDoor
