/-
  Facts of the proof. Condition: each theorem's own.
-/
import Derived.Shelf.Sort.Plain
import Derived.Shelf.Slices.In.SortNone
import Derived.Test.YtpifdbphmnifdaaGreatDoorYI4
set_option maxRecDepth 100000
set_option maxHeartbeats 8000000
namespace Go.Proofs.YtpifdbphmnifdaaGreatDoor
open Go.RowKit
abbrev Tp:=List UInt8×Int×Int×Bool×Value×List Cl
def te (x:Tp):List Value:=[.string (str x.1),.int .i64 x.2.1,.int .i64 x.2.2.1,.bool x.2.2.2.1,x.2.2.2.2.1]
def clT (x:Tp):List Cl:=x.2.2.2.2.2
theorem Jes (x:Tp):(te x).length=5:=rfl
abbrev LstT:=@LstG Tp te
def OkT (W:World) (x:Tp):Prop:=LstC W x.2.2.2.2.1 x.2.2.2.2.2∧x.2.2.2.2.2.length≤9223372036854775807∧OkS x.2.2.2.2.2
theorem OkT.below {w w':World} {x:Tp} (h:OkT w x) (b:Below w.heap.size w w'):OkT w' x:=⟨h.1.below b,h.2⟩
def Jeb (w:World) (v:Value) (l:List Tp):Prop:=LstT w v l∧∀x∈l,OkT w x
theorem Jeb.below {w w':World} {v:Value} {l:List Tp} (h:Jeb w v l) (b:Below w.heap.size w w'):Jeb w' v l:=⟨h.1.below b,fun x hx=>(h.2 x hx).below b⟩
theorem Jb8 {w:World} {A:Option Addr} {n c:Nat} {l:List Tp} (h:Jeb w (.slice A n c) l) {i:Nat} {id:List UInt8} {r k:Int} {f:Bool} {v:Value} {cl:List Cl} (hs:l[i]?=some (id,r,k,f,v,cl)) {s:ByteArray} (hst:str id=s) :
  ∃b o B m,A=some ⟨b,o,none⟩∧v=.slice B cl.length m∧b<w.heap.size∧w.cell? ⟨b,o+i*5,none⟩=some (.string s)∧w.cell? ⟨b,o+i*5+1,none⟩=some (.int .i64 r)∧w.cell? ⟨b,o+i*5+2,none⟩=some (.int .i64 k)∧w.cell? ⟨b,o+i*5+3,none⟩=some (.bool f)∧w.cell? ⟨b,o+i*5+4,none⟩=some (.slice B cl.length m) ∧
   LstC w (.slice B cl.length m) cl∧cl.length≤9223372036854775807∧OkS cl:=by
 subst hst;obtain⟨ht,hok⟩:=h;obtain⟨h1,h2,h3⟩:=hok _ (List.mem_iff_getElem?.2 ⟨i,hs⟩);simp only at h1 h2 h3;obtain⟨B,m,rfl,-,-,-⟩:=_root_.id h1;obtain⟨A',c',hv,_,_,hx⟩:=ht;cases hv
 have hi:=(List.getElem?_eq_some_iff.1 hs).1;obtain⟨b,o,rfl,hb,hcell⟩:=hx (by omega);exact⟨b,o,B,m,rfl,rfl,hb,hcell (i*5) _ (by rw [←Nat.add_zero (i*5),Jbl Jes hs 0 (by omega)];rfl),(hcell (i*5+1) _ (by rw [Jbl Jes hs 1 (by omega)];rfl):_),(hcell (i*5+2) _ (by rw [Jbl Jes hs 2 (by omega)];rfl):_),(hcell (i*5+3) _ (by rw [Jbl Jes hs 3 (by omega)];rfl):_),(hcell (i*5+4) _ (by rw [Jbl Jes hs 4 (by omega)];rfl):_),h1,h2,h3⟩
abbrev boxT (s:ByteArray) (r k:Int) (f:Bool) (v:Value):Obj:=.cells #[.string s,.int .i64 r,.int .i64 k,.bool f,v] 56 (0,0)
theorem J86 {w w7:World} {s:ByteArray} {r k:Int} {f:Bool} {v:Value} (h:w.alloc (boxT s r k f v)=w7) :
  Below w.heap.size w w7∧w7.cell? ⟨w.heap.size,0,none⟩=some (.string s)∧w7.cell? ⟨w.heap.size,1,none⟩=some (.int .i64 r)∧w7.cell? ⟨w.heap.size,2,none⟩=some (.int .i64 k)∧w7.cell? ⟨w.heap.size,3,none⟩=some (.bool f)∧w7.cell? ⟨w.heap.size,4,none⟩=some v∧w.heap.size<w7.heap.size:=by
 subst h;have c7:=heap_alloc_new w (boxT s r k f v);exact⟨(Below.refl _ _).alloc (Nat.le_refl _) _,by rw [cell_of_row _ _ 0 _ _ _ c7];rfl,by rw [cell_of_row _ _ 1 _ _ _ c7];rfl,by rw [cell_of_row _ _ 2 _ _ _ c7];rfl,by rw [cell_of_row _ _ 3 _ _ _ c7];rfl,by rw [cell_of_row _ _ 4 _ _ _ c7];rfl,by simp⟩
theorem J3e {w:World} {b:Nat} {s:ByteArray} {r k:Int} {f:Bool} {v:Value} (h:w.heap[b]?=some (boxT s r k f v)) :
  w.cell? ⟨b,0,none⟩=some (.string s)∧w.cell? ⟨b,1,none⟩=some (.int .i64 r)∧w.cell? ⟨b,2,none⟩=some (.int .i64 k)∧w.cell? ⟨b,3,none⟩=some (.bool f)∧w.cell? ⟨b,4,none⟩=some v :=
 ⟨by rw [cell_of_row _ _ 0 _ _ _ h];rfl,by rw [cell_of_row _ _ 1 _ _ _ h];rfl,by rw [cell_of_row _ _ 2 _ _ _ h];rfl,by rw [cell_of_row _ _ 3 _ _ _ h];rfl,by rw [cell_of_row _ _ 4 _ _ _ h];rfl⟩
theorem Jpb {w:World} {b:Nat} {s a d:Int} {o u:Bool} (h:w.heap[b]?=some (boxC s a d o u)) :
  w.cell? ⟨b,0,none⟩=some (.int .i64 s)∧w.cell? ⟨b,1,none⟩=some (.int .i64 a)∧w.cell? ⟨b,2,none⟩=some (.int .i64 d)∧w.cell? ⟨b,3,none⟩=some (.bool o)∧w.cell? ⟨b,4,none⟩=some (.bool u) :=
 ⟨by rw [cell_of_row _ _ 0 _ _ _ h];rfl,by rw [cell_of_row _ _ 1 _ _ _ h];rfl,by rw [cell_of_row _ _ 2 _ _ _ h];rfl,by rw [cell_of_row _ _ 3 _ _ _ h];rfl,by rw [cell_of_row _ _ 4 _ _ _ h];rfl⟩
theorem Jg0 {w:World} {b i:Nat} {v:Value} {cs:Array Value} {T:TypeId} {fr:Nat×Nat} (h:w.heap[b]?=some (.cells cs T fr)) (hc:cs.setIfInBounds i v=cs):w.setCell ⟨b,i,none⟩ v=w:=by
 unfold World.setCell;cases w with
 | mk hp tape drawn os out =>
  simp only at h ⊢;congr 1
  refine Array.ext_getElem? fun j=>?_
  rw [Array.getElem?_modify];split
  ·next e =>
   subst e;rw [h];simp [hc]
  ·rfl
theorem box_last {w w7:World} {s a d:Int} {o:Bool} (h:w.alloc (boxC s a d o false)=w7):w7.frozen? ⟨w.heap.size,4,none⟩=false∧w7.setCell ⟨w.heap.size,4,none⟩ (.bool false)=w7:=by
 subst h;exact⟨frozen_of_row _ _ 4 _ _ (heap_alloc_new _ _),Jg0 (heap_alloc_new _ _) rfl⟩
theorem Jda (w:World) (x y:Obj):∃W:World,(w.alloc x).alloc y=W∧W.heap.size=w.heap.size+2∧W.heap[w.heap.size]?=some x∧W.heap[w.heap.size+1]?=some y∧Below w.heap.size w W:=by
 refine⟨_,rfl,by simp,(Go.heap_alloc_old _ _ (show w.heap.size<_ by simp)).trans (heap_alloc_new w _),?_,((Below.refl _ _).alloc (Nat.le_refl _) _).alloc (by simp) _⟩;have hh:=heap_alloc_new (w.alloc x) y;rw [show (w.alloc x).heap.size=w.heap.size+1 by simp] at hh;exact hh
theorem Jzs (w:World) {ops:Array Oper} {rest:List Oper} {o:Oper} {a:Act} {Q:Exit→Act→World→Prop} (hgd:o.guard=none) (s x:Operand)
  (ho:o.op=.call { callee:=.builtin .append,args:=#[s,x],argTypes:=#[84,84] }) (base:Nat) (v:Value) (l:List Int) (m:Int) (hs:a.eval s=v) (hown:OwnI w base v l)
  (k:Nat) (cells:Array Value) (hk:w.heap[k]?=some (.cells cells 3 (0,0))) (hc:cells=#[.int .i64 m]) (hx:a.eval x=.slice (some ⟨k,0,none⟩) 1 1) (hb:base≤w.heap.size)
  (hl:l.length+1≤1099511627776) (h:∀v' w',OwnI w' base v' (l++[m])→w.grownBy w' v.ownBlock→(∀g,v'.ownBlock=some g→v.ownBlock=some g∨g=w.heap.size)→wpList Tryz.prog ops Q rest (a.put o.dst v') w'):wpList Tryz.prog ops Q (o::rest) a w:=by
 obtain⟨i,hi,hz,hsz,hby⟩:=info_parts Jje;refine Jew w hgd s x 84 ho base 3 i _ 1 8 Tryz.underlying84 hi hz hsz hby rfl (by decide) v l.length (ints l) hs hown ⟨k,0,none⟩ 1 1 (ints [m]) hx (by simp) ?_ (Jy4 [m]) (by unfold maxLen;omega) (by omega) hb ?_
 ·intro j u hu
  have hadd:(⟨k,0,none⟩:Addr).add j=⟨k,j,none⟩:=by unfold Addr.add;split <;> simp_all
  rw [hadd,cell_of_row w k j cells _ _ hk,←hu,hc];simp
 ·intro v' w' h1 h2 h3
  refine h v' w' ?_ h2 h3;unfold OwnI ints;rw [List.length_append,List.map_append];exact h1
end Go.Proofs.YtpifdbphmnifdaaGreatDoor
namespace Go.Proofs.YtpifdbphmnifdaaGreatDoor.S17
open Go Go.RowKit
open Go.RowKit
def idT (x:Tp):List UInt8:=x.1
def rkT (ro ca r k:Int):Prop:=(0≤r∧r<ro)∧0≤k∧k<ca
instance (ro ca r k:Int):Decidable (rkT ro ca r k):=by unfold rkT;infer_instance
def badT (st ro ca:Int) (seen:List (List UInt8)) (x:Tp):Int:=if Jak x.1=false then 12 else if x.1∈seen then 6 else if rkT ro ca x.2.1 x.2.2.1 then (chkC st 0 172800 x.2.2.2.2.2).2 else 9
section
variable {st ro ca:Int} {seen:List (List UInt8)} {x:Tp}
theorem Jup (h:Jak x.1=false):badT st ro ca seen x=12:=by unfold badT;rw [if_pos h]
theorem Jrm (h:Jak x.1=true) (h2:x.1∈seen):badT st ro ca seen x=6:=by unfold badT;rw [if_neg (by rw [h];simp),if_pos h2]
theorem Jpc (h:Jak x.1=true) (h2:x.1 ∉ seen) (h3:¬rkT ro ca x.2.1 x.2.2.1):badT st ro ca seen x=9:=by unfold badT;rw [if_neg (by rw [h];simp),if_neg h2,if_neg h3]
theorem Jrn (h:Jak x.1=true) (h2:x.1 ∉ seen) (h3:rkT ro ca x.2.1 x.2.2.1):badT st ro ca seen x=(chkC st 0 172800 x.2.2.2.2.2).2:=by unfold badT;rw [if_neg (by rw [h];simp),if_neg h2,if_pos h3]
end
theorem valid_le {l:List UInt8} (h:Jak l=true):l.length≤32:=((Je2 l).1 h).1.2
def chkT (st ro ca:Int) (l:List Tp):Int×Int:=if 256<l.length then (0,5) else fbF (badT st ro ca) idT [] 0 l
theorem chkT_many {st ro ca:Int} {l:List Tp} (h:256<l.length):chkT st ro ca l=(0,5):=by unfold chkT;rw [if_pos h]
theorem chkT_start {st ro ca:Int} {l:List Tp} (h:l.length≤256):chkT st ro ca l=fbF (badT st ro ca) idT ((l.take 0).map idT) 0 (l.drop 0):=by unfold chkT;rw [if_neg (by omega)];rfl
theorem Jm6 (v:Value) (l:List Cl) (hl:l.length≤9223372036854775807) (st lo hi s a d:Int) (o u:Bool) (hx:l[0]?=some (s,a,d,o,u)) (w:World) (h:LstC w v l):Calls Tryz.prog 262 #[v,.int .i64 0,.int .i64 st,.int .i64 lo,.int .i64 hi] w fun e w'=>e=.returned (.int .i64 (badC st lo hi none (s,a,d,o,u)))∧Below w.heap.size w w':=by
 obtain⟨A,c,rfl,-,-,-⟩:=id h;obtain⟨b,f,rfl,hb,r0,r1,r2,r3,r4⟩:=Jbp h hx;obtain⟨w7,hw7⟩:∃W,w.alloc (.cells #[.int .i64 s,.int .i64 a,.int .i64 d,.bool o,.bool u] 58 (0,0))=W:=⟨_,rfl⟩;obtain⟨b7,p0,p1,p2,p3,p4,s7⟩:=Jlf hw7;rw [Nat.zero_mul,Nat.add_zero] at r0 r1 r2 r3 r4;have B7:=Lib.hid b7;have gl:0<l.length:=(List.getElem?_eq_some_iff.1 hx).1;have gk:(0:Int)<(l.length:Int):=by omega
 clear b7 hx h hb;by_cases h1:s<0
 ·have R:=Lib.hid (Jgy (st:=st) (lo:=lo) (hi:=hi) (p:=none) (x:=(s,a,d,o,u)) (.inl h1))
  go_enter Tryz.func262,Tryz.ntmps262
  go_wp2_with fail
  go_ret;exact⟨Jad R.out.symm,B7.out⟩
 have d1:decide (s<0)=false:=decide_eq_false h1;by_cases h2:st≤s
 ·have R:=Lib.hid (Jgy (st:=st) (lo:=lo) (hi:=hi) (p:=none) (x:=(s,a,d,o,u)) (.inr h2))
  clear h1;go_enter Tryz.func262,Tryz.ntmps262
  go_wp2_with fail
  go_ret;exact⟨Jad R.out.symm,B7.out⟩
 have d2:decide (st≤s)=false:=decide_eq_false h2;by_cases h4:a<lo
 ·have R:=Lib.hid (Jdl (st:=st) (lo:=lo) (hi:=hi) (p:=none) (x:=(s,a,d,o,u)) h1 h2 Jgz (.inl h4))
  clear h1 h2;go_enter Tryz.func262,Tryz.ntmps262
  go_wp2_with fail
  go_quiet (fail)
  go_wp2_with fail
  go_ret;exact⟨Jad R.out.symm,Jaj B7.out _⟩
 have d4:decide (a<lo)=false:=decide_eq_false h4;by_cases h5:d<a
 ·have R:=Lib.hid (Jdl (st:=st) (lo:=lo) (hi:=hi) (p:=none) (x:=(s,a,d,o,u)) h1 h2 Jgz (.inr (.inl h5)))
  clear h1 h2 h4;go_enter Tryz.func262,Tryz.ntmps262
  go_wp2_with fail
  go_quiet (fail)
  go_wp2_with fail
  go_ret;exact⟨Jad R.out.symm,Jaj B7.out _⟩
 have d5:decide (d<a)=false:=decide_eq_false h5;by_cases h6:hi<d
 ·have R:=Lib.hid (Jdl (st:=st) (lo:=lo) (hi:=hi) (p:=none) (x:=(s,a,d,o,u)) h1 h2 Jgz (.inr (.inr h6)))
  clear h1 h2 h4 h5;go_enter Tryz.func262,Tryz.ntmps262
  go_wp2_with fail
  go_quiet (fail)
  go_wp2_with fail
  go_ret;exact⟨Jad R.out.symm,Jaj B7.out _⟩
 have d6:decide (hi<d)=false:=decide_eq_false h6;have R:=Lib.hid (badC_none (st:=st) (lo:=lo) (hi:=hi) (p:=none) (x:=(s,a,d,o,u)) h1 h2 Jgz h4 h5 h6 Jzq);clear h1 h2 h4 h5 h6;go_enter Tryz.func262,Tryz.ntmps262
 go_wp2_with fail
 go_quiet (fail)
 go_wp2_with fail
 go_quiet (fail)
 go_wp2_with fail
 go_ret;exact⟨Jad R.out.symm,Jaj (Jaj B7.out _) _⟩
theorem Jm7 (v:Value) (l:List Cl) (hl:l.length≤9223372036854775807) (st lo hi s a d:Int) (o u:Bool) (n m:Nat) (hm:n=m+1) (hx:l[n]?=some (s,a,d,o,u)) (s1 a1 t1:Int) (o1 u1:Bool) (hy:l[m]?=some (s1,a1,t1,o1,u1)) (w:World) (h:LstC w v l):Calls Tryz.prog 262 #[v,.int .i64 (n:Int),.int .i64 st,.int .i64 lo,.int .i64 hi] w fun e w'=>e=.returned (.int .i64 (badC st lo hi (some (s1,a1,t1,o1,u1)) (s,a,d,o,u)))∧Below w.heap.size w w':=by
 obtain⟨A,c,rfl,-,-,-⟩:=id h;obtain⟨b,f,rfl,hb,r0,r1,r2,r3,r4⟩:=Jbp h hx;obtain⟨w7,hw7⟩:∃W,w.alloc (.cells #[.int .i64 s,.int .i64 a,.int .i64 d,.bool o,.bool u] 58 (0,0))=W:=⟨_,rfl⟩;obtain⟨b7,p0,p1,p2,p3,p4,s7⟩:=Jlf hw7;obtain⟨b',f',hA,hb',q0,q1,q2,-,-⟩:=Jbp (h.below b7) hy;cases hA
 have B7:=Lib.hid b7;have gl:n<l.length:=(List.getElem?_eq_some_iff.1 hx).1;have gk:(n:Int)<(l.length:Int):=by omega
 have gm:(m:Int)<(l.length:Int):=by omega
 have gn:(0:Int)<(n:Int):=by omega
 have gn':0<n:=by omega
 have gs:(n:Int) - 1=(m:Int):=by omega
 clear b7 hx hy h hb hb' hm q1;by_cases h1:s<0
 ·have R:=Lib.hid (Jgy (st:=st) (lo:=lo) (hi:=hi) (p:=some (s1,a1,t1,o1,u1)) (x:=(s,a,d,o,u)) (.inl h1))
  go_enter Tryz.func262,Tryz.ntmps262
  go_wp2_with fail
  go_ret;exact⟨Jad R.out.symm,B7.out⟩
 have d1:decide (s<0)=false:=decide_eq_false h1;by_cases h2:st≤s
 ·have R:=Lib.hid (Jgy (st:=st) (lo:=lo) (hi:=hi) (p:=some (s1,a1,t1,o1,u1)) (x:=(s,a,d,o,u)) (.inr h2))
  clear h1;go_enter Tryz.func262,Tryz.ntmps262
  go_wp2_with fail
  go_ret;exact⟨Jad R.out.symm,B7.out⟩
 have d2:decide (st≤s)=false:=decide_eq_false h2;by_cases h3:s=s1
 ·have e3:=Jaq h3
  have R:=Lib.hid (Jun (st:=st) (lo:=lo) (hi:=hi) (p:=some (s1,a1,t1,o1,u1)) (x:=(s,a,d,o,u)) h1 h2 (J5i h3));clear h1 h2 h3;go_enter Tryz.func262,Tryz.ntmps262
  go_wp2_with fail
  go_quiet (fail)
  go_wp2_with fail
  go_ret;exact⟨Jad R.out.symm,Jaj B7.out _⟩
 have e3:=Jac h3;by_cases h4:a<lo
 ·have R:=Lib.hid (Jdl (st:=st) (lo:=lo) (hi:=hi) (p:=some (s1,a1,t1,o1,u1)) (x:=(s,a,d,o,u)) h1 h2 (Jle h3) (.inl h4))
  clear h1 h2 h3;go_enter Tryz.func262,Tryz.ntmps262
  go_wp2_with fail
  go_quiet (fail)
  go_wp2_with fail
  go_ret;exact⟨Jad R.out.symm,Jaj B7.out _⟩
 have d4:decide (a<lo)=false:=decide_eq_false h4;by_cases h5:d<a
 ·have R:=Lib.hid (Jdl (st:=st) (lo:=lo) (hi:=hi) (p:=some (s1,a1,t1,o1,u1)) (x:=(s,a,d,o,u)) h1 h2 (Jle h3) (.inr (.inl h5)))
  clear h1 h2 h3 h4;go_enter Tryz.func262,Tryz.ntmps262
  go_wp2_with fail
  go_quiet (fail)
  go_wp2_with fail
  go_ret;exact⟨Jad R.out.symm,Jaj B7.out _⟩
 have d5:decide (d<a)=false:=decide_eq_false h5;by_cases h6:hi<d
 ·have R:=Lib.hid (Jdl (st:=st) (lo:=lo) (hi:=hi) (p:=some (s1,a1,t1,o1,u1)) (x:=(s,a,d,o,u)) h1 h2 (Jle h3) (.inr (.inr h6)))
  clear h1 h2 h3 h4 h5;go_enter Tryz.func262,Tryz.ntmps262
  go_wp2_with fail
  go_quiet (fail)
  go_wp2_with fail
  go_ret;exact⟨Jad R.out.symm,Jaj B7.out _⟩
 have d6:decide (hi<d)=false:=decide_eq_false h6;by_cases h7:a<t1
 ·have R:=Lib.hid (Juo (st:=st) (lo:=lo) (hi:=hi) (p:=some (s1,a1,t1,o1,u1)) (x:=(s,a,d,o,u)) h1 h2 (Jle h3) h4 h5 h6 (J5j h7))
  clear h1 h2 h3 h4 h5 h6;go_enter Tryz.func262,Tryz.ntmps262
  go_wp2_with fail
  go_quiet (fail)
  go_wp2_with fail
  go_quiet (fail)
  go_wp2_with fail
  go_ret;exact⟨Jad R.out.symm,Jaj (Jaj B7.out _) _⟩
 have d7:decide (a<t1)=false:=decide_eq_false h7;have R:=Lib.hid (badC_none (st:=st) (lo:=lo) (hi:=hi) (p:=some (s1,a1,t1,o1,u1)) (x:=(s,a,d,o,u)) h1 h2 (Jle h3) h4 h5 h6 (J85 h7));clear h1 h2 h3 h4 h5 h6 h7;go_enter Tryz.func262,Tryz.ntmps262
 go_wp2_with fail
 go_quiet (fail)
 go_wp2_with fail
 go_quiet (fail)
 go_wp2_with fail
 go_ret;exact⟨Jad R.out.symm,Jaj (Jaj B7.out _) _⟩
theorem Juq (v:Value) (l:List Cl) (hl:l.length≤9223372036854775807) (st lo hi s a d:Int) (o u:Bool) (n:Nat) (hx:l[n]?=some (s,a,d,o,u)) (w:World) (h:LstC w v l):Calls Tryz.prog 262 #[v,.int .i64 (n:Int),.int .i64 st,.int .i64 lo,.int .i64 hi] w fun e w'=>e=.returned (.int .i64 (badC st lo hi (prvC l n) (s,a,d,o,u)))∧Below w.heap.size w w':=by
 cases n with
 | zero=>exact Jm6 v l hl st lo hi s a d o u hx w h
 | succ m =>
  have hlt:=(List.getElem?_eq_some_iff.1 hx).1;obtain⟨⟨s1,a1,t1,o1,u1⟩,hy⟩:=Jao (show m<l.length by omega);have e:prvC l (m+1)=some (s1,a1,t1,o1,u1):=hy;rw [e];exact Jm7 v l hl st lo hi s a d o u (m+1) m rfl hx s1 a1 t1 o1 u1 hy w h
theorem kcheck_any (v:Value) (l:List Cl) (hl:l.length≤9223372036854775807) (st lo hi:Int) (w:World) (h:LstC w v l):Calls Tryz.prog 195 #[v,.int .i64 st,.int .i64 lo,.int .i64 hi] w fun e w'=>e=.returned (.tuple #[.int .i64 ((chkC st lo hi l).1),.int .i64 ((chkC st lo hi l).2)])∧Below w.heap.size w w':=by
 have H:=Lib.hid h;obtain⟨A,c,rfl,-,-,-⟩:=h;by_cases h2:l.length<2
 ·have R:=Lib.hid (Jzr (st:=st) (lo:=lo) (hi:=hi) h2)
  have g:(l.length:Int)<2:=by omega
  generalize chkC st lo hi l=q at R ⊢;clear h2;go_enter Tryz.func195,Tryz.ntmps195
  go_wp2_with fail
  go_ret2;exact⟨ret_chk (by rw [R.out]) (by rw [R.out]),Below.refl _ _⟩
 have g2:decide ((l.length:Int)<2)=false:=by rw [decide_eq_false_iff_not];omega
 by_cases h32:32<l.length
 ·have R:=Lib.hid (chkC_many (st:=st) (lo:=lo) (hi:=hi) h32)
  have g:(32:Int)<(l.length:Int):=by omega
  generalize chkC st lo hi l=q at R ⊢;clear h32 h2;go_enter Tryz.func195,Tryz.ntmps195
  go_wp2_with fail
  go_ret2;exact⟨ret_chk (by rw [R.out]) (by rw [R.out]),Below.refl _ _⟩
 have g:decide ((32:Int)<(l.length:Int))=false:=by rw [decide_eq_false_iff_not];omega
 have ST:=Lib.hid (chkC_start (st:=st) (lo:=lo) (hi:=hi) h2 h32);obtain⟨q,hq⟩:∃q,chkC st lo hi l=q:=⟨_,rfl⟩;rw [hq];rw [hq] at ST;clear h32 hq h2;go_enter Tryz.func195,Tryz.ntmps195
 go_wp2_with fail
 go_loopw [22] (fun i wr=>∃k:Nat,i=.int .i64 k∧k≤l.length∧Hid (q=ckF st lo hi (prvC l k) k (l.drop k))∧Hid (Below w.heap.size w wr)) (fun i _=>l.length - (intOf i).toNat)
 case atStart=>exact⟨0,rfl,Nat.zero_le _,ST,Lib.hid (Below.refl _ _)⟩
 case round =>
  clear g g2 ST;obtain⟨k,rfl,hk,hz,HB⟩:=hrel;by_cases hlt:k<l.length
  ·obtain⟨⟨s,a,d,o,u⟩,hx⟩:=Jao hlt
   have gk:(k:Int)<(l.length:Int):=by omega
   have C:=Lib.hid (Juq _ l hl st lo hi s a d o u k hx wr (H.out.below HB.out));by_cases he:badC st lo hi (prvC l k) (s,a,d,o,u)=0
   ·have N:=Lib.hid (J5k hz.out hx he)
    rw [he] at C;clear hx hz he;go_wp2_with fail
    refine C.out.mono ?_;rintro e w8 ⟨rfl,b8⟩;have B8:Hid (Below w.heap.size w w8):=HB.out.trans (b8.mono HB.out.size);clear b8 C HB;go_wp2_with fail
    go_roundw
    case rel=>exact⟨k+1,by go_num,by omega,N,B8⟩
    case measure=>simp [intOf];omega
   ·have R:=Lib.hid (J5l hz.out hx rfl he)
    have ne:=Jae he;generalize badC st lo hi (prvC l k) (s,a,d,o,u)=y at C R ne;clear hx hz he;go_wp2_with fail
    refine C.out.mono ?_;rintro e w8 ⟨rfl,b8⟩;have B8:Hid (Below w.heap.size w w8):=HB.out.trans (b8.mono HB.out.size);clear b8 C HB;go_wp2_with fail
    go_ret2;exact⟨ret_chk (by rw [R.out]) (by rw [R.out]),B8.out⟩
  ·have R:=Lib.hid (J5m hz.out (by omega))
   have d:decide (k<l.length)=false:=by rw [decide_eq_false_iff_not];exact hlt
   clear hz hlt;go_wp2_with fail
   go_ret2;exact⟨ret_chk (by rw [R.out]) (by rw [R.out]),HB.out⟩
theorem valid_all_any (s:ByteArray) (w:World):Calls Tryz.prog 193 #[.string s] w fun e w'=>e=.returned (.bool (Jak s.data.toList))∧w=w':=by
 by_cases hs:s.size≤1099511627776
 ·exact Je8 s hs w
 have e:=Jdk s (by omega);have he:s.toList.isEmpty=false:=by rw [Jbd,decide_eq_false_iff_not];omega
 have g:(32:Int)<(s.size:Int):=by omega
 clear hs;rw [e];go_enter Tryz.func193,Tryz.ntmps193
 go_wp2_with fail
 go_ret;exact⟨rfl,rfl⟩
theorem valid_small {s:ByteArray} {id:List UInt8} (hs:str id=s) (hv:Jak id=true):s.size≤32:=by
 rw [←hs,Jaf];exact valid_le hv
theorem Jm8 (i n:Int) (h:0≤i∧i<n) (w:World):Calls Tryz.prog 194 #[.int .i64 i,.int .i64 n] w fun e w'=>e=.returned (.bool true)∧w=w':=by
 obtain⟨h0,h1⟩:=h;go_enter Tryz.func194,Tryz.ntmps194
 go_wp2_with fail
 go_ret;exact⟨rfl,rfl⟩
theorem J3f (i n:Int) (h:¬(0≤i∧i<n)) (w:World):Calls Tryz.prog 194 #[.int .i64 i,.int .i64 n] w fun e w'=>e=.returned (.bool false)∧w=w':=by
 by_cases h0:0≤i
 ·have d:decide (i<n)=false:=decide_eq_false (fun h1=>h ⟨h0,h1⟩)
  clear h;go_enter Tryz.func194,Tryz.ntmps194
  go_wp2_with fail
  go_ret;exact⟨rfl,rfl⟩
 ·have d:decide (0≤i)=false:=decide_eq_false h0
  clear h h0;go_enter Tryz.func194,Tryz.ntmps194
  go_wp2_with fail
  go_ret;exact⟨rfl,rfl⟩
theorem ktck_any (v:Value) (l:List Tp) (hl:l.length≤9223372036854775807) (st ro ca:Int) (w:World) (h:Jeb w v l):Calls Tryz.prog 105 #[v,.int .i64 st,.int .i64 ro,.int .i64 ca] w fun e w'=>e=.returned (.tuple #[.int .i64 ((chkT st ro ca l).1),.int .i64 ((chkT st ro ca l).2)])∧Below w.heap.size w w':=by
 have H:=Lib.hid h;obtain⟨⟨A,n,rfl,-,-,-⟩,-⟩:=h;by_cases hm:256<l.length
 ·have R:=Lib.hid (chkT_many (st:=st) (ro:=ro) (ca:=ca) hm)
  have g:(256:Int)<(l.length:Int):=by omega
  generalize chkT st ro ca l=q at R ⊢;clear hm;go_enter Tryz.func105,Tryz.ntmps105
  go_wp2_with fail
  go_ret2;exact⟨ret_chk (by rw [R.out]) (by rw [R.out]),Below.refl _ _⟩
 have g:decide ((256:Int)<(l.length:Int))=false:=by rw [decide_eq_false_iff_not];omega
 have ST:=Lib.hid (chkT_start (st:=st) (ro:=ro) (ca:=ca) (l:=l) (by omega));have hm':l.length≤256:=by omega
 have hmm:=@run_makeMap Tryz.prog;obtain⟨q,hq⟩:∃q,chkT st ro ca l=q:=⟨_,rfl⟩;rw [hq];rw [hq] at ST;clear hm hq;go_enter Tryz.func105,Tryz.ntmps105
 go_wp2_with fail
 go_loopw [21] (fun i wr=>∃k:Nat,i=.int .i64 k∧k≤l.length∧Hid (q=fbF (badT st ro ca) idT ((l.take k).map idT) k (l.drop k))∧Hid (MapB wr w.heap.size ((l.take k).map idT))∧Hid (Below w.heap.size w wr)) (fun i _=>l.length - (intOf i).toNat)
 case atStart=>exact⟨0,rfl,Nat.zero_le _,ST,Lib.hid (MapB.made w),Lib.hid ((Below.refl _ _).alloc (Nat.le_refl _) _)⟩
 case round =>
  clear g ST hmm;obtain⟨k,rfl,hk,hz,HM,HB⟩:=hrel;by_cases hlt:k<l.length
  ·obtain⟨⟨id,r,c,f,v,cl⟩,hx⟩:=Jao hlt
   obtain⟨nm,hnm⟩:∃nm,str id=nm:=⟨_,rfl⟩;obtain⟨b,o,B,m,rfl,rfl,hb,r0,r1,r2,r3,r4,lc,lcl,-⟩:=Jb8 (H.out.below HB.out) hx hnm;obtain⟨w7,hw7⟩:∃W,wr.alloc (.cells #[.string nm,.int .i64 r,.int .i64 c,.bool f,.slice B cl.length m] 56 (0,0))=W:=⟨_,rfl⟩;obtain⟨b7,p0,p1,p2,p3,p4,s7⟩:=J86 hw7;have gk:(k:Int)<(l.length:Int):=by omega
   have hid:nm.data.toList=id:=by rw [←hnm]
   have B7:Hid (Below w.heap.size w w7):=HB.out.trans (b7.mono HB.out.size);have M7:=Lib.hid (HM.out.below b7);have L7:=Lib.hid (lc.below b7);have V:=Lib.hid (fun W=>valid_all_any nm W);rw [hid] at V;clear b7 HM HB hb lc;cases hv:Jak id with
   | false =>
    have R:=Lib.hid (Ja7 hz.out hx (Jup (seen:=(l.take k).map idT) (x:=(id,r,c,f,.slice B cl.length m,cl)) hv) (by decide));rw [hv] at V;clear hx hz hnm hid hv;go_wp2_with fail
    refine (V.out _).mono ?_;rintro e w' ⟨rfl,rfl⟩;go_wp2_with fail
    go_ret2;exact⟨ret_chk (by rw [R.out]) (by rw [R.out]),B7.out⟩
   | true =>
    rw [hv] at V;have lk:=M7.out.look nm id hid (by have:=valid_small hnm hv;omega);by_cases hd:id∈(l.take k).map idT
    ·have R:=Lib.hid (Ja7 hz.out hx (Jrm (seen:=(l.take k).map idT) (x:=(id,r,c,f,.slice B cl.length m,cl)) hv hd) (by decide))
     rw [decide_eq_true hd] at lk;clear hx hz hnm hid hv hd;go_wp2_with fail
     refine (V.out _).mono ?_;rintro e w' ⟨rfl,rfl⟩;go_wp2_with fail
     go_ret2;exact⟨ret_chk (by rw [R.out]) (by rw [R.out]),B7.out⟩
    rw [decide_eq_false hd] at lk;by_cases hr:0≤r∧r<ro
    ·by_cases hc:0≤c∧c<ca
     ·have X1:=Lib.hid (fun W=>Jm8 r ro hr W)
      have X2:=Lib.hid (fun W=>Jm8 c ca hc W);have CK:=Lib.hid (kcheck_any (.slice B cl.length m) cl lcl st 0 172800 w7 L7.out);have BE:=Lib.hid (Jrn (st:=st) (seen:=(l.take k).map idT) (x:=(id,r,c,f,.slice B cl.length m,cl)) hv hd ⟨hr,hc⟩);by_cases he:(chkC st 0 172800 cl).2=0
      ·have N:=Lib.hid (Jdz hz.out hx (BE.out.trans he))
       have T:=Lib.hid (Jdy (key:=idT) hx);have hil:((l.take k).map idT).length≤256:=by rw [List.length_map,List.length_take];omega
       have HD:Hid (nm.data.toList=id):=hid;have hsz:=valid_small hnm hv;rw [he] at CK;generalize (chkC st 0 172800 cl).1=y at CK;clear hx hz hnm hid hv hd hr hc he BE;go_wp2_with fail
       refine (V.out _).mono ?_;rintro e w' ⟨rfl,rfl⟩;go_wp2_with fail
       refine (X1.out _).mono ?_;rintro e w' ⟨rfl,rfl⟩;go_wp2_with fail
       refine (X2.out _).mono ?_;rintro e w' ⟨rfl,rfl⟩;go_wp2_with fail
       refine CK.out.mono ?_;rintro e w8 ⟨rfl,b8⟩;have q0:=(b8.cell (p:=⟨wr.heap.size,0,none⟩) s7).trans p0;have B8:Hid (Below w.heap.size w w8):=B7.out.trans (b8.mono B7.out.size);have M8:=Lib.hid (M7.out.below b8);clear b8 p0 p1 p2 p3 p4 B7 M7 CK V X1 X2 lk L7 r0 r1 r2 r3 r4 hw7;go_wp2_with (at_mapUpdate;refine Je7 _ rfl _ _ _ rfl w.heap.size ((l.take k).map idT) rfl M8.out nm id HD.out (by omega) rfl rfl (by omega) ?_;intro w9 m9 g9;refine Hid.out ?_)
       have M:Hid (MapB w9 w.heap.size ((l.take (k+1)).map idT)):=by
        show MapB _ _ _
        rw [T.out];exact m9
       have B9:Hid (Below w.heap.size w w9):=B8.out.grown g9 B8.out.size (fun j hj=>by cases hj;exact Nat.le_refl _);clear m9 g9 M8 B8;refine Lib.hid ?_;go_wp2_with fail
       go_roundw
       case rel=>exact⟨k+1,by go_num,by omega,N,M,B9⟩
       case measure=>simp [intOf];omega
      ·have R:=Lib.hid (Ja7 hz.out hx BE.out he)
       have ne:=Jae he;generalize (chkC st 0 172800 cl).1=y at CK;generalize (chkC st 0 172800 cl).2=z at CK R ne;clear hx hz hnm hid hv hd hr hc he BE;go_wp2_with fail
       refine (V.out _).mono ?_;rintro e w' ⟨rfl,rfl⟩;go_wp2_with fail
       refine (X1.out _).mono ?_;rintro e w' ⟨rfl,rfl⟩;go_wp2_with fail
       refine (X2.out _).mono ?_;rintro e w' ⟨rfl,rfl⟩;go_wp2_with fail
       refine CK.out.mono ?_;rintro e w8 ⟨rfl,b8⟩;have B8:Hid (Below w.heap.size w w8):=B7.out.trans (b8.mono B7.out.size);clear b8 B7 CK;go_wp2_with fail
       go_ret2;exact⟨ret_chk (by rw [R.out]) (by rw [R.out]),B8.out⟩
     ·have R:=Lib.hid (Ja7 hz.out hx (Jpc (seen:=(l.take k).map idT) (x:=(id,r,c,f,.slice B cl.length m,cl)) hv hd (fun h=>hc h.2)) (by decide))
      have X1:=Lib.hid (fun W=>Jm8 r ro hr W);have X2:=Lib.hid (fun W=>J3f c ca hc W);clear hx hz hnm hid hv hd hr hc;go_wp2_with fail
      refine (V.out _).mono ?_;rintro e w' ⟨rfl,rfl⟩;go_wp2_with fail
      refine (X1.out _).mono ?_;rintro e w' ⟨rfl,rfl⟩;go_wp2_with fail
      refine (X2.out _).mono ?_;rintro e w' ⟨rfl,rfl⟩;go_wp2_with fail
      go_ret2;exact⟨ret_chk (by rw [R.out]) (by rw [R.out]),B7.out⟩
    ·have R:=Lib.hid (Ja7 hz.out hx (Jpc (seen:=(l.take k).map idT) (x:=(id,r,c,f,.slice B cl.length m,cl)) hv hd (fun h=>hr h.1)) (by decide))
     have X1:=Lib.hid (fun W=>J3f r ro hr W);clear hx hz hnm hid hv hd hr;go_wp2_with fail
     refine (V.out _).mono ?_;rintro e w' ⟨rfl,rfl⟩;go_wp2_with fail
     refine (X1.out _).mono ?_;rintro e w' ⟨rfl,rfl⟩;go_wp2_with fail
     go_ret2;exact⟨ret_chk (by rw [R.out]) (by rw [R.out]),B7.out⟩
  ·have R:=Lib.hid (Jd0 hz.out (by omega))
   have d:decide (k<l.length)=false:=by rw [decide_eq_false_iff_not];exact hlt
   clear hz hlt HM;go_wp2_with fail
   go_ret2;exact⟨ret_chk (by rw [R.out]) (by rw [R.out]),HB.out⟩
end Go.Proofs.YtpifdbphmnifdaaGreatDoor.S17
namespace Go.Proofs.YtpifdbphmnifdaaGreatDoor
open Go
def srtI (l:List Int):List Int:=l.mergeSort fun x y=>decide (x≤y)
theorem Jpd:srtI []=[]:=by simp [srtI]
theorem Jg1 (l:List Int):(srtI l).length=l.length:=(List.mergeSort_perm l _).length_eq
open Go Go.RowKit
abbrev Fq:=Int×Int×Int×Int
def sndF (f:Fq):Bool:=decide (0≤f.2.1∧f.2.1<f.2.2.1∧f.2.2.1≤172800∧1≤f.2.2.2∧f.2.2.2≤86400)
theorem Jf3 {t a b e:Int}:sndF (t,a,b,e)=true↔(0≤a∧a<b∧b≤172800∧1≤e∧e≤86400):=by unfold sndF;exact decide_eq_true_iff
theorem Jlg {t a b e:Int} (h:¬(0≤a∧a<b∧b≤172800∧1≤e∧e≤86400)):sndF (t,a,b,e)=false:=by unfold sndF;exact decide_eq_false h
def cntF (f:Fq):Nat:=((f.2.2.1 - f.2.1 - 1) / f.2.2.2+1).toNat
def nthF (f:Fq) (k:Nat):Int:=f.2.1+(k:Int)*f.2.2.2
def lstF (f:Fq):List Int:=(List.range (cntF f)).map (nthF f)
def stsF (f:Fq):List Int:=if sndF f then lstF f else []
theorem Jm9 {f:Fq} (h:sndF f=true):stsF f=lstF f:=by unfold stsF;rw [if_pos h]
theorem J3g {f:Fq} (h:sndF f=false):stsF f=[]:=by unfold stsF;rw [if_neg (by rw [h];simp)]
theorem Jpe {f:Fq} (h:sndF f=true) (k:Nat):k<cntF f↔nthF f k<f.2.2.1:=by
 obtain⟨t,a,b,e⟩:=f;obtain⟨h1,h2,h3,h4,h5⟩:=Jf3.1 h;unfold cntF nthF;show k<((b - a - 1) / e+1).toNat↔a+(k:Int)*e<b
 have q0:0≤(b - a - 1) / e:=Int.ediv_nonneg (by omega) (by omega);have q1:(k:Int)≤(b - a - 1) / e↔(k:Int)*e≤b - a - 1:=Int.le_ediv_iff_mul_le (by omega);generalize (b - a - 1) / e=q at q0 q1 ⊢;generalize (k:Int)*e=m at q1 ⊢;omega
theorem Jji (f:Fq):nthF f 0=f.2.1:=by unfold nthF;simp
theorem Jzt (f:Fq) (k:Nat):nthF f (k+1)=nthF f k+f.2.2.2:=by
 unfold nthF;rw [Int.natCast_add,Int.add_mul,Int.natCast_one,Int.one_mul];omega
theorem Jur {f:Fq} (h:sndF f=true):0<cntF f:=by
 rw [Jpe h,Jji];obtain⟨t,a,b,e⟩:=f;exact (Jf3.1 h).2.1
theorem Jus {f:Fq} (h:sndF f=true):cntF f≤172800:=by
 rcases Nat.lt_or_ge 172800 (cntF f) with h1 | h1
 ·exfalso
  have h2:=(Jpe h 172800).1 h1;obtain⟨t,a,b,e⟩:=f;have h3:=Jf3.1 h;unfold nthF at h2;simp only at h2;omega
 ·exact h1
theorem Jjj (f:Fq):(lstF f).length=cntF f:=by unfold lstF;rw [List.length_map,List.length_range]
theorem J87 (f:Fq):(stsF f).length≤172800:=by
 cases h:sndF f with
 | false=>rw [J3g h];simp
 | true=>rw [Jm9 h,Jjj];exact Jus h
theorem Jut {f:Fq} {k:Nat} (h:k<cntF f):(lstF f)[k]?=some (nthF f k):=by
 unfold lstF;rw [List.getElem?_map,List.getElem?_range h];rfl
theorem Jzu {f:Fq} {k:Nat} (h:k<cntF f):(lstF f).take (k+1)=(lstF f).take k++[nthF f k]:=Jb0 _ _ _ (Jut h)
theorem J5n (f:Fq):(lstF f).take (cntF f)=lstF f:=List.take_of_length_le (by rw [Jjj];exact Nat.le_refl _)
theorem J5o {f:Fq} (k:Nat):(lstF f).take k <+: lstF f:=List.take_prefix _ _
def insF (t:Int) (l:List Fq):List Int:=(l.filter fun f=>decide (f.1=t)).flatMap stsF
theorem Jna (t:Int) (l m:List Fq):insF t (l++m)=insF t l++insF t m:=by unfold insF;rw [List.filter_append,List.flatMap_append]
theorem J5p {t:Int} {l:List Fq} {k:Nat} {f:Fq} (h:l[k]?=some f) (ht:f.1=t):insF t (l.take (k+1))=insF t (l.take k)++stsF f:=by
 have e:insF t [f]=stsF f:=by
  unfold insF;simp [ht]
 rw [Jb0 l k f h,Jna,e]
theorem J88 {t:Int} {l:List Fq} {k:Nat} {f:Fq} (h:l[k]?=some f) (ht:f.1≠t):insF t (l.take (k+1))=insF t (l.take k):=by
 rw [Jb0 l k f h,Jna];have:insF t [f]=[]:=by
  unfold insF;rw [List.filter_cons_of_neg (by rw [decide_eq_false ht];simp)];rfl
 rw [this,List.append_nil]
theorem Juu (t:Int):∀l:List Fq,(insF t l).length≤l.length*172800
 | []=>Nat.zero_le _
 | f::r=>by
  have ih:=Juu t r;have h1:=J87 f;have e:insF t (f::r)=insF t [f]++insF t r:=Jna t [f] r;rw [e,List.length_append,List.length_cons];have h2:(insF t [f]).length≤(stsF f).length:=by
   unfold insF;rw [List.filter_cons];split
   ·simp
   ·simp
  omega
def repF (t:Int) (l:List Fq):Bool:=l.any fun f=>decide (f.1=t)
def dpF (l:List Cl):Int:=(l.head?.getD (0,0,0,false,false)).2.2.1
theorem dp_at {l:List Cl} {x:Cl} (h:l[0]?=some x):dpF l=x.2.2.1:=by
 unfold dpF;rw [List.head?_eq_getElem?,h];rfl
def inT (d st t:Int):Bool:=decide (0≤t - d+st∧t - d+st≤172800)
def fitX (d st:Int) (x:Cl):Bool:=inT d st x.2.1&&inT d st x.2.2.1
theorem Jzv {d st:Int} {x:Cl} (h:inT d st x.2.1=false):fitX d st x=false:=by unfold fitX;rw [h];rfl
theorem Jzw {d st:Int} {x:Cl} (h:inT d st x.2.2.1=false):fitX d st x=false:=by unfold fitX;rw [h,Bool.and_false]
theorem Jzx {d st:Int} {x:Cl} (h:inT d st x.2.1=true) (k:inT d st x.2.2.1=true):fitX d st x=true:=by unfold fitX;rw [h,k];rfl
def fitC (l:List Cl) (st:Int):Bool:=decide (0≤st∧st≤172800)&&l.all (fitX (dpF l) st)
theorem Juv {l:List Cl} {st:Int} (h:¬(0≤st∧st≤172800)):fitC l st=false:=by unfold fitC;rw [decide_eq_false h];rfl
theorem Jpf {l:List Cl} {st:Int} {k:Nat} {x:Cl} (h:l[k]?=some x) (hx:fitX (dpF l) st x=false):fitC l st=false:=by
 unfold fitC;rw [show l.all (fitX (dpF l) st)=false from ?_,Bool.and_false];rw [List.all_eq_false];exact⟨x,List.mem_iff_getElem?.2 ⟨k,h⟩,by rw [hx];simp⟩
theorem Jzy {l:List Cl} {st:Int} (h:0≤st∧st≤172800) (hx:∀(j:Nat) x,l[j]?=some x→fitX (dpF l) st x=true):fitC l st=true:=by
 unfold fitC;rw [decide_eq_true h,Bool.true_and,List.all_eq_true];intro x hm;obtain⟨j,hj⟩:=List.mem_iff_getElem?.1 hm;exact hx j x hj
def ovlF (f g:Fq):Bool:=decide (f.2.1<g.2.2.1)&&decide (g.2.1<f.2.2.1)
theorem ovl_a {f g:Fq} (h:¬f.2.1<g.2.2.1):ovlF f g=false:=by unfold ovlF;rw [decide_eq_false h];rfl
theorem ovl_b {f g:Fq} (h:¬g.2.1<f.2.2.1):ovlF f g=false:=by unfold ovlF;rw [decide_eq_false h,Bool.and_false]
theorem J5q {f g:Fq} (h:f.2.1<g.2.2.1) (k:g.2.1<f.2.2.1):ovlF f g=true:=by unfold ovlF;rw [decide_eq_true h,decide_eq_true k];rfl
def metF (f g:Fq):Bool:=decide (f.1=g.1)&&ovlF f g
theorem Juw {f g:Fq} (h:f.1≠g.1):metF f g=false:=by unfold metF;rw [decide_eq_false h];rfl
theorem Jzz {f g:Fq} (h:f.1=g.1):metF f g=ovlF f g:=by unfold metF;rw [decide_eq_true h,Bool.true_and]
def hitF (seen:List Fq) (f:Fq):Bool:=seen.any (metF f)
def endF (f:Fq):Int:=nthF f (cntF f - 1)
theorem J89 {f:Fq} (h:sndF f=true):(lstF f)[(lstF f).length - 1]?=some (endF f):=by
 rw [Jjj];exact Jut (by have:=Jur h;omega)
theorem Jz0 {f:Fq} (h:sndF f=true):(lstF f)[0]?=some f.2.1:=by
 rw [Jut (Jur h),Jji]
def allF (l:List Cl) (f:Fq):Bool:=fitC l f.2.1&&fitC l (endF f)
def clsF (ts:List (List Cl)) (f:Fq):List Cl:=(ts[f.1.toNat]?).getD []
theorem J9a {ts:List (List Cl)} {f:Fq} {c:List Cl} {n:Nat} (hn:f.1=(n:Int)) (h:ts[n]?=some c):clsF ts f=c:=by
 unfold clsF;rw [hn,Int.toNat_natCast,h];rfl
def badF (ts:List (List Cl)) (seen:List Fq) (f:Fq):Int :=
 if f.1<0∨(ts.length:Int)≤f.1 then 9 else if sndF f=false∨allF (clsF ts f) f=false then 10 else if 256<(insF f.1 (seen++[f])).length then 17 else if hitF seen f then 8 else 0
section
variable {ts:List (List Cl)} {seen:List Fq} {f:Fq}
theorem Jpg (h:f.1<0∨(ts.length:Int)≤f.1):badF ts seen f=9:=by unfold badF;rw [if_pos h]
theorem Jro (h1:¬f.1<0) (h2:¬(ts.length:Int)≤f.1) (h:sndF f=false):badF ts seen f=10:=by unfold badF;rw [if_neg (by omega),if_pos (.inl h)]
theorem Jux (h1:¬f.1<0) (h2:¬(ts.length:Int)≤f.1) (h:allF (clsF ts f) f=false):badF ts seen f=10:=by
 unfold badF;rw [if_neg (by omega),if_pos (.inr h)]
theorem Juy (h1:¬f.1<0) (h2:¬(ts.length:Int)≤f.1) (h3:sndF f=true) (h4:allF (clsF ts f) f=true) (h:256<(insF f.1 (seen++[f])).length):badF ts seen f=17:=by
 unfold badF;rw [if_neg (by omega),if_neg (by rw [h3,h4];simp),if_pos h]
theorem Jz1 (h1:¬f.1<0) (h2:¬(ts.length:Int)≤f.1) (h3:sndF f=true) (h4:allF (clsF ts f) f=true) (h5:¬256<(insF f.1 (seen++[f])).length) (h:hitF seen f=true):badF ts seen f=8:=by
 unfold badF;rw [if_neg (by omega),if_neg (by rw [h3,h4];simp),if_neg h5,if_pos h]
theorem Juz (h1:¬f.1<0) (h2:¬(ts.length:Int)≤f.1) (h3:sndF f=true) (h4:allF (clsF ts f) f=true) (h5:¬256<(insF f.1 (seen++[f])).length) (h:hitF seen f=false):badF ts seen f=0:=by
 unfold badF;rw [if_neg (by omega),if_neg (by rw [h3,h4];simp),if_neg h5,if_neg (by rw [h];simp)]
theorem Ju0 (h:badF ts seen f=0):(0≤f.1∧f.1<(ts.length:Int))∧sndF f=true∧allF (clsF ts f) f=true∧(insF f.1 (seen++[f])).length≤256∧hitF seen f=false:=by
 unfold badF at h;split at h
 ·omega
 split at h
 ·omega
 next h2 =>
  split at h
  ·omega
  split at h
  ·omega
  ·next h3 h4 =>
   rw [not_or,Bool.not_eq_false,Bool.not_eq_false] at h2;exact⟨by omega,h2.1,h2.2,by omega,Bool.eq_false_iff.2 h4⟩
end
def chkF (ts:List (List Cl)) (l:List Fq):Int×Int:=if 64<l.length then (0,5) else fbF (badF ts) (fun f=>f) [] 0 l
section
variable {ts:List (List Cl)} {l:List Fq} {q:Int×Int} {k:Nat} {f:Fq}
theorem Ju1 (h:64<l.length):chkF ts l=(0,5):=by unfold chkF;rw [if_pos h]
theorem Jrp (h:¬64<l.length):chkF ts l=fbF (badF ts) (fun f=>f) ((l.take 0).map fun f=>f) 0 (l.drop 0):=by unfold chkF;rw [if_neg h];rfl
theorem Jjk (l:List Fq):(l.map fun f=>f)=l:=List.map_id' l
theorem Jz2 (hr:q=fbF (badF ts) (fun f=>f) ((l.take k).map fun f=>f) k (l.drop k)) (h:l[k]?=some f) {e:Int} (hb:badF ts (l.take k) f=e) (he:e≠0):q=((k:Int),e) :=
 Ja7 hr h (by rw [Jjk];exact hb) he
theorem Jz3 (hr:q=fbF (badF ts) (fun f=>f) ((l.take k).map fun f=>f) k (l.drop k)) (h:l[k]?=some f) (hb:badF ts (l.take k) f=0):q=fbF (badF ts) (fun f=>f) ((l.take (k+1)).map fun f=>f) (k+1) (l.drop (k+1)) :=
 Jdz hr h (by rw [Jjk];exact hb)
theorem Jz4 (hr:q=fbF (badF ts) (fun f=>f) ((l.take k).map fun f=>f) k (l.drop k)) (h:l.length≤k):q=(0,0):=Jd0 hr h
end
theorem Ju2 {κ α:Type} {bad:List κ→α→Int} {key:α→κ}:∀(l:List α) (seen:List κ) (k:Nat),(fbF bad key seen k l).2=0→∀(j:Nat) x,l[j]?=some x→bad (seen++(l.take j).map key) x=0
 | [],_,_,_,j,x,h=>by simp at h
 | y::r,seen,k,hz,j,x,h=>by
  unfold fbF at hz;by_cases hb:bad seen y=0
  ·rw [if_pos hb] at hz
   cases j with
   | zero =>
    simp at h;subst h;simpa using hb
   | succ j =>
    rw [List.getElem?_cons_succ] at h;have:=Ju2 r (seen++[key y]) (k+1) hz j x h;rw [List.append_assoc] at this;exact this
  ·rw [if_neg hb] at hz
   exact absurd hz hb
section
variable {ts:List (List Cl)} {l:List Fq}
theorem Jz5 (h:(chkF ts l).2=0):∀(j:Nat) f,l[j]?=some f→badF ts (l.take j) f=0:=by
 unfold chkF at h;split at h
 ·cases h
 ·intro j f hf
  have:=Ju2 l [] 0 h j f hf;rw [List.nil_append,Jjk] at this;exact this
end
open Go.RowKit
def fe (x:Fq):List Value:=[.int .i64 x.1,.int .i64 x.2.1,.int .i64 x.2.2.1,.int .i64 x.2.2.2]
theorem fe_len (x:Fq):(fe x).length=4:=rfl
abbrev LstF:=@LstG Fq fe
theorem four_at {w:World} {A:Option Addr} {n c:Nat} {l:List Fq} (h:LstF w (.slice A n c) l) {i:Nat} {t a b v:Int} (hs:l[i]?=some (t,a,b,v)) :
  ∃k f,A=some ⟨k,f,none⟩∧k<w.heap.size∧w.cell? ⟨k,f+i*4,none⟩=some (.int .i64 t)∧w.cell? ⟨k,f+i*4+1,none⟩=some (.int .i64 a)∧w.cell? ⟨k,f+i*4+2,none⟩=some (.int .i64 b)∧w.cell? ⟨k,f+i*4+3,none⟩=some (.int .i64 v):=by
 obtain⟨A',c',hv,_,_,hx⟩:=h;cases hv
 have hi:=(List.getElem?_eq_some_iff.1 hs).1;obtain⟨k,f,rfl,hb,hcell⟩:=hx (by omega);exact⟨k,f,rfl,hb,hcell (i*4) _ (by rw [←Nat.add_zero (i*4),Jbl fe_len hs 0 (by omega)];rfl),(hcell (i*4+1) _ (by rw [Jbl fe_len hs 1 (by omega)];rfl):_),(hcell (i*4+2) _ (by rw [Jbl fe_len hs 2 (by omega)];rfl):_),(hcell (i*4+3) _ (by rw [Jbl fe_len hs 3 (by omega)];rfl):_)⟩
abbrev boxF (t a b v:Int):Obj:=.cells #[.int .i64 t,.int .i64 a,.int .i64 b,.int .i64 v] 118 (0,0)
theorem Jb4 {w:World} {k:Nat} {t a b v:Int} (h:w.heap[k]?=some (boxF t a b v)) :
  w.cell? ⟨k,0,none⟩=some (.int .i64 t)∧w.cell? ⟨k,1,none⟩=some (.int .i64 a)∧w.cell? ⟨k,2,none⟩=some (.int .i64 b)∧w.cell? ⟨k,3,none⟩=some (.int .i64 v) :=
 ⟨by rw [cell_of_row _ _ 0 _ _ _ h];rfl,by rw [cell_of_row _ _ 1 _ _ _ h];rfl,by rw [cell_of_row _ _ 2 _ _ _ h];rfl,by rw [cell_of_row _ _ 3 _ _ _ h];rfl⟩
theorem Jfb {w w7:World} {t a b v:Int} (h:w.alloc (boxF t a b v)=w7) :
  Below w.heap.size w w7∧w7.cell? ⟨w.heap.size,0,none⟩=some (.int .i64 t)∧w7.cell? ⟨w.heap.size,1,none⟩=some (.int .i64 a)∧w7.cell? ⟨w.heap.size,2,none⟩=some (.int .i64 b)∧w7.cell? ⟨w.heap.size,3,none⟩=some (.int .i64 v)∧w.heap.size<w7.heap.size∧w7.heap[w.heap.size]?=some (boxF t a b v):=by
 subst h;have c7:=heap_alloc_new w (boxF t a b v);obtain⟨h0,h1,h2,h3⟩:=Jb4 c7;exact⟨(Below.refl _ _).alloc (Nat.le_refl _) _,h0,h1,h2,h3,by simp,c7⟩
abbrev fqV (t a b v:Int):Value:=.agg #[.int .i64 t,.int .i64 a,.int .i64 b,.int .i64 v]
theorem Jjl (t a b v:Int) (w:World):Calls Tryz.prog 263 #[fqV t a b v] w fun e w'=>e=.returned (.bool (sndF (t,a,b,v)))∧Below w.heap.size w w':=by
 obtain⟨w7,hw7⟩:∃W,w.alloc (boxF t a b v)=W:=⟨_,rfl⟩;obtain⟨b7,p0,p1,p2,p3,s7,c7⟩:=Jfb hw7;have B7:=Lib.hid b7;clear b7 c7 s7;by_cases n0:¬(0≤a)
 ·have h0:=n0
  clear n0;have g0:decide (0≤a)=false:=decide_eq_false h0;have R:=Lib.hid (Jlg (t:=t) (a:=a) (b:=b) (e:=v) (by omega));clear h0;go_enter Tryz.func263,Tryz.ntmps263
  go_wp2_with fail
  go_ret;exact⟨Jaa R.out.symm,B7.out⟩
 have h0:=Decidable.not_not.1 n0;clear n0;by_cases n1:¬(a<b)
 ·have h1:=n1
  clear n1;have g1:decide (a<b)=false:=decide_eq_false h1;have R:=Lib.hid (Jlg (t:=t) (a:=a) (b:=b) (e:=v) (by omega));clear h1;go_enter Tryz.func263,Tryz.ntmps263
  go_wp2_with fail
  go_ret;exact⟨Jaa R.out.symm,B7.out⟩
 have h1:=Decidable.not_not.1 n1;clear n1;by_cases n2:¬(b≤172800)
 ·have h2:=n2
  clear n2;have g2:decide (b≤172800)=false:=decide_eq_false h2;have R:=Lib.hid (Jlg (t:=t) (a:=a) (b:=b) (e:=v) (by omega));clear h2;go_enter Tryz.func263,Tryz.ntmps263
  go_wp2_with fail
  go_ret;exact⟨Jaa R.out.symm,B7.out⟩
 have h2:=Decidable.not_not.1 n2;clear n2;by_cases n3:¬(1≤v)
 ·have h3:=n3
  clear n3;have g3:decide (1≤v)=false:=decide_eq_false h3;have R:=Lib.hid (Jlg (t:=t) (a:=a) (b:=b) (e:=v) (by omega));clear h3;go_enter Tryz.func263,Tryz.ntmps263
  go_wp2_with fail
  go_ret;exact⟨Jaa R.out.symm,B7.out⟩
 have h3:=Decidable.not_not.1 n3;clear n3;by_cases n4:¬(v≤86400)
 ·have h4:=n4
  clear n4;have g4:decide (v≤86400)=false:=decide_eq_false h4;have R:=Lib.hid (Jlg (t:=t) (a:=a) (b:=b) (e:=v) (by omega));clear h4;go_enter Tryz.func263,Tryz.ntmps263
  go_wp2_with fail
  go_ret;exact⟨Jaa R.out.symm,B7.out⟩
 have h4:=Decidable.not_not.1 n4;clear n4;have R:=Lib.hid ((Jf3 (t:=t) (a:=a) (b:=b) (e:=v)).2 ⟨h0,h1,h2,h3,h4⟩);go_enter Tryz.func263,Tryz.ntmps263
 go_wp2_with fail
 go_ret;exact⟨Jaa R.out.symm,B7.out⟩
theorem Jz6 (t a b v t' a' b' v':Int) (w:World):Calls Tryz.prog 269 #[fqV t a b v,fqV t' a' b' v'] w fun e w'=>e=.returned (.bool (ovlF (t,a,b,v) (t',a',b',v')))∧Below w.heap.size w w':=by
 obtain⟨w7,hw7,-,ra,rb,b7⟩:=Jda w (boxF t a b v) (boxF t' a' b' v');obtain⟨p0,p1,p2,p3⟩:=Jb4 ra;obtain⟨q0,q1,q2,q3⟩:=Jb4 rb;have B7:=Lib.hid b7;clear b7 ra rb;by_cases n0:¬a<b'
 ·have h0:=n0
  clear n0;have g0:decide (a<b')=false:=decide_eq_false h0;have R:=Lib.hid (ovl_a (f:=(t,a,b,v)) (g:=(t',a',b',v')) h0);clear h0;go_enter Tryz.func269,Tryz.ntmps269
  go_wp2_with fail
  go_ret;exact⟨Jaa R.out.symm,B7.out⟩
 have h0:=Decidable.not_not.1 n0;clear n0;by_cases n1:¬a'<b
 ·have h1:=n1
  clear n1;have g1:decide (a'<b)=false:=decide_eq_false h1;have R:=Lib.hid (ovl_b (f:=(t,a,b,v)) (g:=(t',a',b',v')) h1);clear h1;go_enter Tryz.func269,Tryz.ntmps269
  go_wp2_with fail
  go_ret;exact⟨Jaa R.out.symm,B7.out⟩
 have h1:=Decidable.not_not.1 n1;clear n1;have R:=Lib.hid (J5q (f:=(t,a,b,v)) (g:=(t',a',b',v')) h0 h1);go_enter Tryz.func269,Tryz.ntmps269
 go_wp2_with fail
 go_ret;exact⟨Jaa R.out.symm,B7.out⟩
end Go.Proofs.YtpifdbphmnifdaaGreatDoor
namespace Go.Proofs
open Go.Shelf
def Tryz.lays189_ren:Go.Shelf.Ren:=⟨fun | 189=>334 | 125=>361 | 257=>360 | 128=>380 | 129=>381 | 294=>371 | 295=>372 | 296=>373 | 297=>374 | 298=>375 | 299=>376 | 216=>377 | 300=>378 | 301=>379 | 328=>389 | 329=>390 | 330=>391 | 331=>392 | 332=>393 | 215=>394 | 343=>401 | n=>n,fun | 28=>84 | 3=>3 | 46=>223 | 0=>0 | 51=>280 | 53=>225 | 4=>4 | 183=>306 | 182=>305 | 131=>248 | 5=>5 | 9=>9 | 218=>321 | 222=>325 | 228=>333 | 229=>94 | n=>n,fun | n=>n⟩
theorem Tryz.lays189:Go.Proofs.Lays.n189 Tryz.prog Tryz.lays189_ren:={
 mixed:=by kernel_rfl
 f125:=Tryz.func361.trans (congrArg some (by kernel_rfl))
 f128:=Tryz.func380.trans (congrArg some (by kernel_rfl))
 f129:=Tryz.func381.trans (congrArg some (by kernel_rfl))
 f189:=Tryz.func334.trans (congrArg some (by kernel_rfl))
 f215:=Tryz.func394.trans (congrArg some (by kernel_rfl))
 f216:=Tryz.func377.trans (congrArg some (by kernel_rfl))
 f257:=Tryz.func360.trans (congrArg some (by kernel_rfl))
 f294:=Tryz.func371.trans (congrArg some (by kernel_rfl))
 f295:=Tryz.func372.trans (congrArg some (by kernel_rfl))
 f296:=Tryz.func373.trans (congrArg some (by kernel_rfl))
 f297:=Tryz.func374.trans (congrArg some (by kernel_rfl))
 f298:=Tryz.func375.trans (congrArg some (by kernel_rfl))
 f299:=Tryz.func376.trans (congrArg some (by kernel_rfl))
 f300:=Tryz.func378.trans (congrArg some (by kernel_rfl))
 f301:=Tryz.func379.trans (congrArg some (by kernel_rfl))
 f328:=Tryz.func389.trans (congrArg some (by kernel_rfl))
 f329:=Tryz.func390.trans (congrArg some (by kernel_rfl))
 f330:=Tryz.func391.trans (congrArg some (by kernel_rfl))
 f331:=Tryz.func392.trans (congrArg some (by kernel_rfl))
 f332:=Tryz.func393.trans (congrArg some (by kernel_rfl))
 f343:=Tryz.func401.trans (congrArg some (by kernel_rfl))
 t0:=Tryz.underlying0
 a0:=Tryz.isAgg0
 z0:=Tryz.sizeOf0
 v0:=Tryz.zeroValue0
 t3:=Tryz.underlying3
 a3:=Tryz.isAgg3
 z3:=Tryz.sizeOf3
 v3:=Tryz.zeroValue3
 t4:=Tryz.underlying4
 a4:=Tryz.isAgg4
 z4:=Tryz.sizeOf4
 v4:=Tryz.zeroValue4
 t5:=Tryz.underlying5
 a5:=Tryz.isAgg5
 z5:=Tryz.sizeOf5
 v5:=Tryz.zeroValue5
 t9:=Tryz.underlying9
 a9:=Tryz.isAgg9
 z9:=Tryz.sizeOf9
 v9:=Tryz.zeroValue9
 t28:=Tryz.underlying84
 a28:=Tryz.isAgg84
 z28:=Tryz.sizeOf84
 v28:=Tryz.zeroValue84
 t46:=Tryz.underlying223
 a46:=Tryz.isAgg223
 z46:=Tryz.sizeOf223
 v46:=Tryz.zeroValue223
 t51:=Tryz.underlying280
 a51:=Tryz.isAgg280
 z51:=Tryz.sizeOf280
 v51:=Tryz.zeroValue280
 t53:=Tryz.underlying225
 a53:=Tryz.isAgg225
 z53:=Tryz.sizeOf225
 v53:=Tryz.zeroValue225
 t131:=Tryz.underlying248
 a131:=Tryz.isAgg248
 z131:=Tryz.sizeOf248
 v131:=Tryz.zeroValue248
 t182:=Tryz.underlying305
 a182:=Tryz.isAgg305
 z182:=Tryz.sizeOf305
 v182:=Tryz.zeroValue305
 t183:=Tryz.underlying306
 a183:=Tryz.isAgg306
 z183:=Tryz.sizeOf306
 v183:=Tryz.zeroValue306
 t218:=Tryz.underlying321
 a218:=Tryz.isAgg321
 z218:=Tryz.sizeOf321
 v218:=Tryz.zeroValue321
 t222:=Tryz.underlying325
 a222:=Tryz.isAgg325
 z222:=Tryz.sizeOf325
 v222:=Tryz.zeroValue325
 t228:=Tryz.underlying333
 a228:=Tryz.isAgg333
 z228:=Tryz.sizeOf333
 v228:=Tryz.zeroValue333
 t229:=Tryz.underlying94
 a229:=Tryz.isAgg94
 z229:=Tryz.sizeOf94
 v229:=Tryz.zeroValue94 }
open Go.Sort Go.RowKit in
theorem Tryz.slices_Sort_int (blk off cap:Nat) (zs:List Int) (w:World) (hH:Holds (Value.int .i64) w blk off zs.toArray) (hblk:blk<w.heap.size) (hsz:zs.length<4611686018427387904) :
  Calls Tryz.prog 334 #[.slice (some ⟨blk,off,none⟩) zs.length cap] w fun e w' =>
   e=.returned (.tuple #[])∧∃n os,w'=grow (putRow (Value.int .i64) (Sort.ahead w n) blk off (zs.mergeSort fun x y=>decide (x≤y)).toArray) os:=Any.slices_Sort_int Tryz.lays189 blk off cap zs w hH hblk hsz
open Go.RowKit Go.Sort in
theorem Tryz.slices_Sort_int_none (p:Option Addr) (cap:Nat) (w:World) :
  Calls Tryz.prog 334 #[.slice p 0 cap] w fun e w'=>e=.returned (.tuple #[])∧w'=w:=Any.slices_Sort_int_none Tryz.lays189 p cap w
end Go.Proofs
