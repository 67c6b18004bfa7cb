/-
  Facts of the proof. Condition: each theorem's own.
-/
import Derived.Lib.QuietBelow
import Derived.DeepKeys4
import Derived.Test.YtpifdbphmnifdaaGreatDoorYI1
set_option maxRecDepth 100000
set_option maxHeartbeats 8000000
open Go.Proofs.Tryz
namespace Go.Proofs.YtpifdbphmnifdaaGreatDoor
namespace S14
open Go
abbrev Cl:=List UInt8×(Nat→Bool)×Int×Int
abbrev Ex:=Int×Int×Bool
def dayP (d:Int):Prop:=0≤d∧d≤36524
instance (d:Int):Decidable (dayP d):=by unfold dayP;infer_instance
def okR (f t:Int):Prop:=dayP f∧dayP t∧f≤t
instance (f t:Int):Decidable (okR f t):=by unfold okR;infer_instance
def badC (seen:List (List UInt8)) (x:Cl):Int:=if Jak x.1=false then 12 else if x.1∈seen then 6 else if okR x.2.2.1 x.2.2.2 then 0 else 11
theorem Jk5 {seen:List (List UInt8)} {x:Cl} (h:Jak x.1=false):badC seen x=12:=by unfold badC;rw [if_pos h]
theorem Jre {seen:List (List UInt8)} {x:Cl} (h:Jak x.1=true) (h2:x.1∈seen):badC seen x=6:=by unfold badC;rw [if_neg (by rw [h];simp),if_pos h2]
theorem Jt6 {seen:List (List UInt8)} {x:Cl} (h:Jak x.1=true) (h2:x.1 ∉ seen) (h3:¬okR x.2.2.1 x.2.2.2):badC seen x=11:=by unfold badC;rw [if_neg (by rw [h];simp),if_neg h2,if_neg h3]
theorem badC_none {seen:List (List UInt8)} {x:Cl} (h:Jak x.1=true) (h2:x.1 ∉ seen) (h3:okR x.2.2.1 x.2.2.2):badC seen x=0:=by unfold badC;rw [if_neg (by rw [h];simp),if_neg h2,if_pos h3]
def idC (x:Cl):List UInt8:=x.1
def chkC (l:List Cl):Int×Int:=if 64<l.length then (0,5) else fbF badC idC [] 0 l
theorem chkC_many {l:List Cl} (h:64<l.length):chkC l=(0,5):=by unfold chkC;rw [if_pos h]
theorem chkC_start {l:List Cl} (h:l.length≤64):chkC l=fbF badC idC ((l.take 0).map idC) 0 (l.drop 0):=by unfold chkC;rw [if_neg (by omega)];rfl
def badX (n:Int) (seen:List (Int×Int)) (e:Ex):Int:=if e.1<0∨n≤e.1 then 9 else if ¬dayP e.2.1 then 11 else if (e.1,e.2.1)∈seen then 6 else 0
theorem Jzg {n:Int} {seen:List (Int×Int)} {e:Ex} (h:e.1<0∨n≤e.1):badX n seen e=9:=by unfold badX;rw [if_pos h]
theorem Jt7 {n:Int} {seen:List (Int×Int)} {e:Ex} (h:¬(e.1<0∨n≤e.1)) (h2:¬dayP e.2.1):badX n seen e=11:=by unfold badX;rw [if_neg h,if_pos h2]
theorem Jrf {n:Int} {seen:List (Int×Int)} {e:Ex} (h:¬(e.1<0∨n≤e.1)) (h2:dayP e.2.1) (h3:(e.1,e.2.1)∈seen):badX n seen e=6:=by unfold badX;rw [if_neg h,if_neg (fun k=>k h2),if_pos h3]
theorem Jt8 {n:Int} {seen:List (Int×Int)} {e:Ex} (h:¬(e.1<0∨n≤e.1)) (h2:dayP e.2.1) (h3:(e.1,e.2.1) ∉ seen):badX n seen e=0:=by unfold badX;rw [if_neg h,if_neg (fun k=>k h2),if_neg h3]
def plX (e:Ex):Int×Int:=(e.1,e.2.1)
def chkX (n:Int) (l:List Ex):Int×Int:=if 256<l.length then (0,5) else fbF (badX n) plX [] 0 l
theorem Jt9 {n:Int} {l:List Ex} (h:256<l.length):chkX n l=(0,5):=by unfold chkX;rw [if_pos h]
theorem Jrg {n:Int} {l:List Ex} (h:l.length≤256):chkX n l=fbF (badX n) plX ((l.take 0).map plX) 0 (l.drop 0):=by unfold chkX;rw [if_neg (by omega)];rfl
open Go.RowKit Go.Sort
def ce (x:Cl):List Value:=[.string (str x.1),.bool (x.2.1 0),.bool (x.2.1 1),.bool (x.2.1 2),.bool (x.2.1 3),.bool (x.2.1 4),.bool (x.2.1 5),.bool (x.2.1 6),.int .i64 x.2.2.1,.int .i64 x.2.2.2]
theorem ce_len (x:Cl):(ce x).length=10:=rfl
abbrev LstC:=@LstG Cl ce
def xe (x:Ex):List Value:=[.int .i64 x.1,.int .i64 x.2.1,.bool x.2.2]
theorem xe_len (x:Ex):(xe x).length=3:=rfl
abbrev LstX:=@LstG Ex xe
theorem three_at {w:World} {A:Option Addr} {n c:Nat} {l:List Ex} (h:LstX w (.slice A n c) l) {i:Nat} {k d:Int} {f:Bool} (hs:l[i]?=some (k,d,f)) :
  ∃b o,A=some ⟨b,o,none⟩∧b<w.heap.size∧w.cell? ⟨b,o+i*3,none⟩=some (.int .i64 k)∧w.cell? ⟨b,o+i*3+1,none⟩=some (.int .i64 d)∧w.cell? ⟨b,o+i*3+2,none⟩=some (.bool f):=by
 obtain⟨A',c',hv,_,_,hx⟩:=h;cases hv
 have hi:=(List.getElem?_eq_some_iff.1 hs).1;obtain⟨b,o,rfl,hb,hcell⟩:=hx (by omega);refine⟨b,o,rfl,hb,hcell (i*3) _ (by rw [←Nat.add_zero (i*3),Jbl xe_len hs 0 (by omega)];rfl),(hcell (i*3+1) _ (by rw [Jbl xe_len hs 1 (by omega)];rfl):_),(hcell (i*3+2) _ (by rw [Jbl xe_len hs 2 (by omega)];rfl):_)⟩
theorem ten_at {w:World} {A:Option Addr} {n c:Nat} {l:List Cl} (h:LstC w (.slice A n c) l) {i:Nat} {id:List UInt8} {k:Nat→Bool} {f t:Int} (hs:l[i]?=some (id,k,f,t)) {s:ByteArray} (hst:str id=s) :
  ∃b o,A=some ⟨b,o,none⟩∧b<w.heap.size∧w.cell? ⟨b,o+i*10,none⟩=some (.string s)∧(∀m,m<7→w.cell? ⟨b,o+i*10+1+m,none⟩=some (.bool (k m)))∧w.cell? ⟨b,o+i*10+8,none⟩=some (.int .i64 f)∧w.cell? ⟨b,o+i*10+9,none⟩=some (.int .i64 t):=by
 subst hst;obtain⟨A',c',hv,_,_,hx⟩:=h;cases hv
 have hi:=(List.getElem?_eq_some_iff.1 hs).1;obtain⟨b,o,rfl,hb,hcell⟩:=hx (by omega);refine⟨b,o,rfl,hb,hcell (i*10) _ (by rw [←Nat.add_zero (i*10),Jbl ce_len hs 0 (by omega)];rfl),fun m hm=>?_,(hcell (i*10+8) _ (by rw [Jbl ce_len hs 8 (by omega)];rfl):_),(hcell (i*10+9) _ (by rw [Jbl ce_len hs 9 (by omega)];rfl):_)⟩;have e:o+i*10+1+m=o+(i*10+(1+m)):=by omega
 rw [e];refine hcell _ _ ?_;rw [Jbl ce_len hs (1+m) (by omega)];match m,hm with
 | 0,_=>rfl
 | 1,_=>rfl
 | 2,_=>rfl
 | 3,_=>rfl
 | 4,_=>rfl
 | 5,_=>rfl
 | 6,_=>rfl
theorem J29 {w w7:World} {s:ByteArray} {k:Nat→Bool} {f t:Int} (h:w.alloc (.cells #[.string s,.bool (k 0),.bool (k 1),.bool (k 2),.bool (k 3),.bool (k 4),.bool (k 5),.bool (k 6),.int .i64 f,.int .i64 t] 61 (0,0))=w7) :
  Below w.heap.size w w7∧w7.cell? ⟨w.heap.size,0,none⟩=some (.string s)∧w7.cell? ⟨w.heap.size,1,none⟩=some (.bool (k 0))∧w7.cell? ⟨w.heap.size,2,none⟩=some (.bool (k 1))∧w7.cell? ⟨w.heap.size,3,none⟩=some (.bool (k 2))∧w7.cell? ⟨w.heap.size,4,none⟩=some (.bool (k 3))∧w7.cell? ⟨w.heap.size,5,none⟩=some (.bool (k 4))∧w7.cell? ⟨w.heap.size,6,none⟩=some (.bool (k 5))∧w7.cell? ⟨w.heap.size,7,none⟩=some (.bool (k 6)) ∧
   w7.cell? ⟨w.heap.size,8,none⟩=some (.int .i64 f)∧w7.cell? ⟨w.heap.size,9,none⟩=some (.int .i64 t)∧w.heap.size<w7.heap.size:=by
 subst h;have c7:=heap_alloc_new w (.cells #[.string s,.bool (k 0),.bool (k 1),.bool (k 2),.bool (k 3),.bool (k 4),.bool (k 5),.bool (k 6),.int .i64 f,.int .i64 t] 61 (0,0));exact⟨(Below.refl _ _).alloc (Nat.le_refl _) _,by rw [cell_of_row _ _ 0 _ _ _ c7];rfl,by rw [cell_of_row _ _ 1 _ _ _ c7];rfl,by rw [cell_of_row _ _ 2 _ _ _ c7];rfl,by rw [cell_of_row _ _ 3 _ _ _ c7];rfl,by rw [cell_of_row _ _ 4 _ _ _ c7];rfl,by rw [cell_of_row _ _ 5 _ _ _ c7];rfl,by rw [cell_of_row _ _ 6 _ _ _ c7];rfl,by rw [cell_of_row _ _ 7 _ _ _ c7];rfl,by rw [cell_of_row _ _ 8 _ _ _ c7];rfl,by rw [cell_of_row _ _ 9 _ _ _ c7];rfl,by simp⟩
theorem Jua {w w7:World} {k d:Int} {f:Bool} (h:w.alloc (.cells #[.int .i64 k,.int .i64 d,.bool f] 116 (0,0))=w7) :
  Below w.heap.size w w7∧w7.cell? ⟨w.heap.size,0,none⟩=some (.int .i64 k)∧w7.cell? ⟨w.heap.size,1,none⟩=some (.int .i64 d)∧w7.cell? ⟨w.heap.size,2,none⟩=some (.bool f)∧w.heap.size<w7.heap.size:=by
 subst h;have c7:=heap_alloc_new w (.cells #[.int .i64 k,.int .i64 d,.bool f] 116 (0,0));exact⟨(Below.refl _ _).alloc (Nat.le_refl _) _,by rw [cell_of_row _ _ 0 _ _ _ c7];rfl,by rw [cell_of_row _ _ 1 _ _ _ c7];rfl,by rw [cell_of_row _ _ 2 _ _ _ c7];rfl,by simp⟩
theorem J8z {w w7:World} {k d:Int} (h:w.alloc (.cells #[.int .i64 k,.int .i64 d] 198 (0,0))=w7) :
  Below w.heap.size w w7∧w7.cell? ⟨w.heap.size,0,none⟩=some (.int .i64 k)∧w7.cell? ⟨w.heap.size,1,none⟩=some (.int .i64 d)∧w.heap.size<w7.heap.size:=by
 subst h;have c7:=heap_alloc_new w (.cells #[.int .i64 k,.int .i64 d] 198 (0,0));exact⟨(Below.refl _ _).alloc (Nat.le_refl _) _,by rw [cell_of_row _ _ 0 _ _ _ c7];rfl,by rw [cell_of_row _ _ 1 _ _ _ c7];rfl,by simp⟩
theorem ret_chk {a b c d:Int} (h:a=b) (k:c=d):Ending.returned (.tuple #[.int .i64 a,.int .i64 c])=.returned (.tuple #[.int .i64 b,.int .i64 d]):=by rw [h,k]
open Go.RowKit Go.Maps Go.WideMaps
theorem J49:laidOutB prog=true:=by kernel_rfl
theorem J3a:(198:TypeId)<prog.types.size:=of_decide_eq_true (by kernel_rfl)
theorem J5a:(match prog.underlying 198 with | some (.array _ _) | some (.struct _)=>true | _=>false)=true:=by kernel_rfl
theorem Jo6:prog.cellsOf 198=2:=by kernel_rfl
theorem int_cells:prog.cellsOf 3=1:=by kernel_rfl
theorem J80:prog.keyType 198=true:=by kernel_rfl
theorem Jub:Keyed prog 198:=Keyed.of_law (deep_law_laid J49 (m:=2) (by omega) J3a (by kernel_rfl) J5a)
theorem Jzh:∃m,prog.types.size=m+1:=by
 cases h:prog.types.size with
 | zero=>exact absurd (h ▸ J3a:(_:Nat)<0) (Nat.not_lt_zero _)
 | succ m=>exact⟨m,rfl⟩
def Pl64 (p:Int×Int):Prop:=(-9223372036854775808≤p.1∧p.1≤9223372036854775807)∧-9223372036854775808≤p.2∧p.2≤9223372036854775807
def kp (p:Int×Int):List UInt8:=keyBytes [.int .i64 p.1,.int .i64 p.2]
theorem Jo7 (p:Int×Int) (h:Pl64 p):keyOf prog 198 (.agg #[.int .i64 p.1,.int .i64 p.2])=some (.string (kp p)):=by
 have w1:=WalkArith.wf_i64 h.1;have w2:=WalkArith.wf_i64 h.2;have hu:=underlying198;have hi:=underlying3;obtain⟨m,hm⟩:=Jzh;unfold keyOf;simp only [hu];rw [if_pos (by simp [J80,Value.formed,hu,Jo6]),hm];unfold Program.keyLits;simp only [hu,Value.cells];rw [if_pos ⟨by rw [Jo6];rfl,by simp⟩];simp [int_cells,Program.keyLits,hi,w1,w2,kp]
theorem J3b {p q:Int×Int} (hp:Pl64 p) (hq:Pl64 q) (h:kp p=kp q):p=q:=by
 have h1:=Jo7 p hp;have h2:=Jo7 q hq;rw [←h] at h2;have:=Jub.inj h1 h2;simp at this;exact Prod.ext this.1 this.2
def MapP (w:World) (b:Nat) (ls:List (Int×Int)):Prop:=(∀p∈ls,Pl64 p)∧∃D:Dm,w.ownsMap prog 198 (plainElem prog 4) b ls.length D∧IsMap D∧(∀p,Pl64 p→has D (.string (kp p))=decide (p∈ls))∧∀p z,p∈ls→D.atKey (.string (kp p)) z=.lit (.bool true)
theorem MapP.made (w:World):MapP (w.alloc (.map #[] 0)) w.heap.size []:=⟨fun p hp=>absurd hp (by simp),.map [],World.ownsMap_made _ _ _ _,isMap_empty,fun x _=>by simp [has_eq],fun x z h=>by simp at h⟩
theorem MapP.below {w w':World} {b:Nat} {ls:List (Int×Int)} (h:MapP w b ls) (hb:Below w.heap.size w w'):MapP w' b ls:=by
 obtain⟨h0,D,h1,h2⟩:=h;exact⟨h0,D,h1.kept (Jkx hb) (by simp),h2⟩
theorem MapP.look {w:World} {b:Nat} {ls:List (Int×Int)} (h:MapP w b ls) (p:Int×Int) (hp:Pl64 p) :
  (Instr.lookup 195 (.map (some b)) (.agg #[.int .i64 p.1,.int .i64 p.2]) false).run prog w=.ok (.bool (decide (p∈ls))) w:=by
 obtain⟨h0,D,h1,h2,h3,h4⟩:=h;obtain⟨v,ps,hrun,hv⟩:=h1.lookup Jub underlying195 (Je6 w) (plainElem_bool underlying4 false) (Jo7 p hp);obtain⟨c,rfl,hc⟩:=Jer hv;have hc:=congrArg Prod.fst hc;rw [hrun];have:c=decide (p∈ls):=by
  by_cases hm:p∈ls
  ·rw [h4 _ _ hm] at hc
   simp at hc;simp [hm,←hc]
  ·rw [atKey_of_not_has (by rw [h3 p hp];exact decide_eq_false hm)] at hc
   simp at hc;simp [hm,←hc]
 rw [this]
theorem J81 (w:World) {ops:Array Oper} {rest:List Oper} {o:Oper} {a:Act} {Q:Exit→Act→World→Prop} (hgd:o.guard=none) (m x v:Operand) (ho:o.op=Op.mapUpdate 195 m x v)
  (b:Nat) (ls:List (Int×Int)) (hm:a.eval m=.map (some b)) (hown:MapP w b ls) (p:Int×Int) (hp:Pl64 p) (hx:a.eval x=.agg #[.int .i64 p.1,.int .i64 p.2]) (hv:a.eval v=.bool true)
  (hl:ls.length<1099511627776) (h:∀w',MapP w' b (ls++[p])→w.grownBy w' (some b)→wpList prog ops Q rest (a.put o.dst undef) w'):wpList prog ops Q (o::rest) a w:=by
 obtain⟨h0,D,h1,h2,h3,h4⟩:=hown;refine wpList_mapUpdate_own w hgd m x v 195 ho 198 4 Jub underlying195 _ b ls.length D hm h1 (by unfold maxLen;omega) _ _ _ hx hv (Jo7 p hp) _ [] (plainElem_bool underlying4 true) ?_;intro w' g1 g2;refine h w' ⟨fun q hq=>?_,_,by rw [List.length_append];exact g1,h2.put _ _,fun q hq=>?_,fun q z hi=>?_⟩ g2
 ·rcases List.mem_append.1 hq with hq | hq
  ·exact h0 q hq
  ·rw [List.mem_singleton.1 hq];exact hp
 ·by_cases hx:q=p
  ·subst hx
   rw [has_put_same h2 (by simp [WideAt.IsKeyLit])];simp
  ·rw [has_put_other (fun e=>hx (J3b hq hp (by simpa using e))),h3 q hq]
   simp [hx]
 ·by_cases hx:q=p
  ·subst hx
   rw [atKey_put_same h2 (by simp [WideAt.IsKeyLit])]
  ·have hq:q∈ls:=by simpa [hx] using hi
   rw [atKey_put_other (fun e=>hx (J3b (h0 q hq) hp (by simpa using e)))];exact h4 q z hq
open Go.RowKit
theorem Jf1 (n:Int) (w:World):Calls prog 258 #[.int .i64 n] w fun e w'=>e=.returned (.bool (decide (dayP n)))∧w=w':=by
 by_cases h0:0≤n
 ·by_cases h1:n≤36524
  ·have R:=Lib.hid (decide_eq_true (p:=dayP n) ⟨h0,h1⟩)
   go_enter func258,ntmps258
   go_wp2_with fail
   go_ret;exact⟨Jaa R.out.symm,rfl⟩
  ·have R:=Lib.hid (decide_eq_false (p:=dayP n) fun h=>h1 h.2)
   have d1:decide (n≤36524)=false:=decide_eq_false h1;clear h1;go_enter func258,ntmps258
   go_wp2_with fail
   go_ret;exact⟨Jaa R.out.symm,rfl⟩
 ·have R:=Lib.hid (decide_eq_false (p:=dayP n) fun h=>h0 h.1)
  have d0:decide (0≤n)=false:=decide_eq_false h0;clear h0;go_enter func258,ntmps258
  go_wp2_with fail
  go_ret;exact⟨Jaa R.out.symm,rfl⟩
theorem Jk6 (k d:Int) (f:Bool) (w:World):Calls prog 192 #[.agg #[.int .i64 k,.int .i64 d,.bool f]] w fun e w'=>e=.returned (.agg #[.int .i64 k,.int .i64 d])∧Below w.heap.size w w':=by
 obtain⟨w1,h1⟩:∃W,w.alloc (.cells #[.int .i64 k,.int .i64 d,.bool f] 116 (0,0))=W:=⟨_,rfl⟩;obtain⟨b1,p0,p1,p2,z1⟩:=Jua h1;obtain⟨w2,h2⟩:∃W,w1.alloc (.cells #[.int .i64 0,.int .i64 0] 198 (0,0))=W:=⟨_,rfl⟩;obtain⟨b2,q0,q1,z2⟩:=J8z h2;have B2:=Lib.hid (b1.trans (b2.mono b1.size));have r0:=(b2.cell (p:=⟨w.heap.size,0,none⟩) z1).trans p0;have r1:=(b2.cell (p:=⟨w.heap.size,1,none⟩) z1).trans p1;have hz:w.heap.size≤w1.heap.size:=b1.size;have hw2:w2.heap[w1.heap.size]?=some (.cells #[.int .i64 0,.int .i64 0] 198 (0,0)):=by rw [←h2];exact heap_alloc_new _ _
 have v0:=frozen_of_row _ _ 0 _ _ hw2;have v1:=frozen_of_row _ _ 1 _ _ hw2;clear b1 b2 p0 p1 p2 hw2;go_enter func192,ntmps192
 go_wp2_with fail
 exact bodyPost_ret (v:=.agg #[.int .i64 k,.int .i64 d]) (by simp [results,Tryz.results192,go_sem,q0,q1]) rfl ⟨rfl,(B2.out.setCell (p:=⟨w1.heap.size,0,none⟩) hz _).setCell (p:=⟨w1.heap.size,1,none⟩) hz _⟩
theorem Jzi (id:List UInt8) (k:Nat→Bool) (f t:Int) (s:ByteArray) (hs:str id=s) (b:Nat) (ls:List (List UInt8)) (w:World) (hm:MapB w b ls) :
  Calls prog 190 #[.agg #[.string s,.bool (k 0),.bool (k 1),.bool (k 2),.bool (k 3),.bool (k 4),.bool (k 5),.bool (k 6),.int .i64 f,.int .i64 t],.map (some b)] w fun e w'=>e=.returned (.int .i64 (badC ls (id,k,f,t)))∧Below w.heap.size w w':=by
 have hid:s.data.toList=id:=by rw [←hs]
 obtain⟨w7,hw7⟩:∃W,w.alloc (.cells #[.string s,.bool (k 0),.bool (k 1),.bool (k 2),.bool (k 3),.bool (k 4),.bool (k 5),.bool (k 6),.int .i64 f,.int .i64 t] 61 (0,0))=W:=⟨_,rfl⟩;obtain⟨b7,p0,-,-,-,-,-,-,-,p8,p9,-⟩:=J29 hw7;have lk:=fun hq:s.size≤32=>(hm.below b7).look s id hid (by omega)
 have V:=Lib.hid (valid_all_any s w7);rw [hid] at V;have B7:=Lib.hid b7;clear b7 hm hid;cases hv:Jak id with
 | false =>
  have R:=Lib.hid (Jk5 (seen:=ls) (x:=(id,k,f,t)) hv);rw [hv] at V;generalize badC ls (id,k,f,t)=q at R ⊢;clear hv hs lk;go_enter func190,ntmps190
  go_wp2_with fail
  refine V.out.mono ?_;rintro e w' ⟨rfl,rfl⟩;go_wp2_with fail
  go_ret;exact⟨Jad R.out.symm,B7.out⟩
 | true =>
  rw [hv] at V;have lk:=lk (valid_small hs hv);clear hs;by_cases hd:id∈ls
  ·have R:=Lib.hid (Jre (x:=(id,k,f,t)) hv hd)
   rw [decide_eq_true hd] at lk;generalize badC ls (id,k,f,t)=q at R ⊢;clear hv hd;go_enter func190,ntmps190
   go_wp2_with fail
   refine V.out.mono ?_;rintro e w' ⟨rfl,rfl⟩;go_wp2_with fail
   go_ret;exact⟨Jad R.out.symm,B7.out⟩
  ·rw [decide_eq_false hd] at lk
   have RF:=Lib.hid (fun hf=>Jt6 (x:=(id,k,f,t)) hv hd hf);have RN:=Lib.hid (fun hf=>badC_none (x:=(id,k,f,t)) hv hd hf);generalize badC ls (id,k,f,t)=q at RF RN ⊢;simp only at RF RN;have VF:=Lib.hid (fun W=>Jf1 f W);have VT:=Lib.hid (fun W=>Jf1 t W);clear hv hd;by_cases h1:dayP f
   case neg =>
    have R:=Lib.hid (RF.out fun h=>h1 h.1);rw [decide_eq_false h1] at VF;clear RF RN h1 VT;go_enter func190,ntmps190
    go_wp2_with fail
    refine V.out.mono ?_;rintro e w' ⟨rfl,rfl⟩;go_wp2_with fail
    refine (VF.out _).mono ?_;rintro e w' ⟨rfl,rfl⟩;go_wp2_with fail
    go_ret;exact⟨Jad R.out.symm,B7.out⟩
   rw [decide_eq_true h1] at VF;by_cases h2:dayP t
   case neg =>
    have R:=Lib.hid (RF.out fun h=>h2 h.2.1);rw [decide_eq_false h2] at VT;clear RF RN h1 h2;go_enter func190,ntmps190
    go_wp2_with fail
    refine V.out.mono ?_;rintro e w' ⟨rfl,rfl⟩;go_wp2_with fail
    refine (VF.out _).mono ?_;rintro e w' ⟨rfl,rfl⟩;go_wp2_with fail
    refine (VT.out _).mono ?_;rintro e w' ⟨rfl,rfl⟩;go_wp2_with fail
    go_ret;exact⟨Jad R.out.symm,B7.out⟩
   rw [decide_eq_true h2] at VT;by_cases h3:t<f
   case pos =>
    have R:=Lib.hid (RF.out fun h=>by have:=h.2.2;omega);clear RF RN h1 h2;go_enter func190,ntmps190
    go_wp2_with fail
    refine V.out.mono ?_;rintro e w' ⟨rfl,rfl⟩;go_wp2_with fail
    refine (VF.out _).mono ?_;rintro e w' ⟨rfl,rfl⟩;go_wp2_with fail
    refine (VT.out _).mono ?_;rintro e w' ⟨rfl,rfl⟩;go_wp2_with fail
    go_ret;exact⟨Jad R.out.symm,B7.out⟩
   have R:=Lib.hid (RN.out ⟨h1,h2,by omega⟩);have d3:decide (t<f)=false:=decide_eq_false h3;clear RF RN h1 h2 h3;go_enter func190,ntmps190
   go_wp2_with fail
   refine V.out.mono ?_;rintro e w' ⟨rfl,rfl⟩;go_wp2_with fail
   refine (VF.out _).mono ?_;rintro e w' ⟨rfl,rfl⟩;go_wp2_with fail
   refine (VT.out _).mono ?_;rintro e w' ⟨rfl,rfl⟩;go_wp2_with fail
   go_ret;exact⟨Jad R.out.symm,B7.out⟩
theorem Jrh {seen:List (List UInt8)} {x:Cl} (h:badC seen x=0):Jak x.1=true:=by
 cases hv:Jak x.1 with
 | true=>rfl
 | false=>rw [Jk5 hv] at h;cases h
theorem kcheck_all (v:Value) (l:List Cl) (hl:l.length≤9223372036854775807) (w:World) (h:LstC w v l):Calls prog 101 #[v] w fun e w'=>e=.returned (.tuple #[.int .i64 ((chkC l).1),.int .i64 ((chkC l).2)])∧Below w.heap.size w w':=by
 have H:=Lib.hid h;obtain⟨A,c,rfl,-,-,-⟩:=h;by_cases h64:64<l.length
 ·have R:=Lib.hid (chkC_many h64)
  have g:(64:Int)<(l.length:Int):=by omega
  generalize chkC l=q at R ⊢;clear h64;go_enter func101,ntmps101
  go_wp2_with fail
  go_ret2;exact⟨ret_chk (by rw [R.out]) (by rw [R.out]),Below.refl _ _⟩
 have g:decide ((64:Int)<(l.length:Int))=false:=by rw [decide_eq_false_iff_not];omega
 have ST:=Lib.hid (chkC_start (l:=l) (by omega));have h64':l.length≤64:=by omega
 have hmm:=@run_makeMap prog;generalize chkC l=q at ST ⊢;clear h64;go_enter func101,ntmps101
 go_wp2_with fail
 go_loopw [14] (fun i wr=>∃k:Nat,i=.int .i64 k∧k≤l.length∧Hid (q=fbF badC idC ((l.take k).map idC) k (l.drop k))∧Hid (MapB wr w.heap.size ((l.take k).map idC))∧Hid (Below w.heap.size w wr)) (fun i _=>l.length - (intOf i).toNat)
 case atStart=>exact⟨0,rfl,Nat.zero_le _,ST,Lib.hid (MapB.made w),Lib.hid ((Below.refl _ _).alloc (Nat.le_refl _) _)⟩
 case round =>
  clear g ST hmm;obtain⟨k,rfl,hk,hz,HM,HB⟩:=hrel;by_cases hlt:k<l.length
  ·obtain⟨⟨id,kw,f,t⟩,hx⟩:=Jao hlt
   obtain⟨nm,hnm⟩:∃nm,str id=nm:=⟨_,rfl⟩;obtain⟨b,o,rfl,hb,r0,mk,r8,r9⟩:=ten_at (H.out.below HB.out) hx hnm;have k0:wr.cell? ⟨b,o+k*10+1,none⟩=some (.bool (kw 0)):=mk 0 (by omega);have k1:wr.cell? ⟨b,o+k*10+2,none⟩=some (.bool (kw 1)):=mk 1 (by omega);have k2:wr.cell? ⟨b,o+k*10+3,none⟩=some (.bool (kw 2)):=mk 2 (by omega);have k3:wr.cell? ⟨b,o+k*10+4,none⟩=some (.bool (kw 3)):=mk 3 (by omega);have k4:wr.cell? ⟨b,o+k*10+5,none⟩=some (.bool (kw 4)):=mk 4 (by omega);have k5:wr.cell? ⟨b,o+k*10+6,none⟩=some (.bool (kw 5)):=mk 5 (by omega);have k6:wr.cell? ⟨b,o+k*10+7,none⟩=some (.bool (kw 6)):=mk 6 (by omega);have gk:(k:Int)<(l.length:Int):=by omega
   obtain⟨w7,hw7⟩:∃W,wr.alloc (.cells #[.string nm,.bool (kw 0),.bool (kw 1),.bool (kw 2),.bool (kw 3),.bool (kw 4),.bool (kw 5),.bool (kw 6),.int .i64 f,.int .i64 t] 61 (0,0))=W:=⟨_,rfl⟩;obtain⟨b7,p0,p1,p2,p3,p4,p5,p6,p7,p8,p9,s7⟩:=J29 hw7;have B7:Hid (Below w.heap.size w w7):=HB.out.trans (b7.mono HB.out.size);have M7:=Lib.hid (HM.out.below b7);have C:=Lib.hid (Jzi id kw f t nm hnm w.heap.size ((l.take k).map idC) w7 M7.out);by_cases he:badC ((l.take k).map idC) (id,kw,f,t)=0
   ·have N:=Lib.hid (Jdz hz.out hx he)
    have T:=Lib.hid (Jdy (key:=idC) hx);have hil:Hid (((l.take k).map idC).length≤64):=by show _≤_;rw [List.length_map,List.length_take];omega
    have hid:Hid (nm.data.toList=id):=by show _=_;rw [←hnm]
    have hns:=valid_small hnm (Jrh he);rw [he] at C;clear hx hz HB HM b7 hnm hb he mk;go_wp2_with fail
    refine C.out.mono ?_;rintro e w8 ⟨rfl,b8⟩;have q0:=(b8.cell (p:=⟨wr.heap.size,0,none⟩) s7).trans p0;have B8:Hid (Below w.heap.size w w8):=B7.out.trans (b8.mono B7.out.size);have M8:=Lib.hid (M7.out.below b8);clear b8 p0 p1 p2 p3 p4 p5 p6 p7 p8 p9 B7 M7 C;go_wp2_with (at_mapUpdate;refine Je7 _ rfl _ _ _ rfl w.heap.size ((l.take k).map idC) rfl M8.out nm id hid.out (by omega) rfl rfl (by have:=hil.out;omega) ?_;intro w9 m9 g9)
    have M:Hid (MapB w9 w.heap.size ((l.take (k+1)).map idC)):=by
     show MapB _ _ _
     rw [T.out];exact m9
    have B:Hid (Below w.heap.size w w9):=B8.out.grown g9 B8.out.size (fun j hj=>by cases hj;exact Nat.le_refl _);clear m9 g9 M8 B8;go_wp2_with fail
    go_roundw
    case rel=>exact⟨k+1,by go_num,by omega,N,M,B⟩
    case measure=>simp [intOf];omega
   ·have R:=Lib.hid (Ja7 hz.out hx rfl he)
    have ne:=Jae he;generalize badC ((l.take k).map idC) (id,kw,f,t)=y at C R ne;clear hx hz HB HM b7 hnm hb he mk;go_wp2_with fail
    refine C.out.mono ?_;rintro e w8 ⟨rfl,b8⟩;have B8:Hid (Below w.heap.size w w8):=B7.out.trans (b8.mono B7.out.size);clear b8 B7 C p0 p1 p2 p3 p4 p5 p6 p7 p8 p9;go_wp2_with fail
    go_ret2;exact⟨ret_chk (by rw [R.out]) (by rw [R.out]),B8.out⟩
  ·have R:=Lib.hid (Jd0 hz.out (by omega))
   have d:decide (k<l.length)=false:=by rw [decide_eq_false_iff_not];exact hlt
   clear hz hlt HM;go_wp2_with fail
   go_ret2;exact⟨ret_chk (by rw [R.out]) (by rw [R.out]),HB.out⟩
theorem Jzj (k d:Int) (f:Bool) (n:Int) (hp:Pl64 (k,d)) (b:Nat) (ls:List (Int×Int)) (w:World) (hm:MapP w b ls) :
  Calls prog 191 #[.agg #[.int .i64 k,.int .i64 d,.bool f],.int .i64 n,.map (some b)] w fun e w'=>e=.returned (.int .i64 (badX n ls (k,d,f)))∧Below w.heap.size w w':=by
 obtain⟨w7,hw7⟩:∃W,w.alloc (.cells #[.int .i64 k,.int .i64 d,.bool f] 116 (0,0))=W:=⟨_,rfl⟩;obtain⟨b7,p0,p1,p2,-⟩:=Jua hw7;have hm:=Lib.hid (hm.below b7);have P:=Lib.hid (Jk6 k d f w7);have VD:=Lib.hid (fun W=>Jf1 d W);have B7:=Lib.hid b7;have RR:=Lib.hid (fun h=>Jzg (n:=n) (seen:=ls) (e:=(k,d,f)) h);have RD:=Lib.hid (fun h h2=>Jt7 (n:=n) (seen:=ls) (e:=(k,d,f)) h h2);have RT:=Lib.hid (fun h h2 h3=>Jrf (n:=n) (seen:=ls) (e:=(k,d,f)) h h2 h3);have RN:=Lib.hid (fun h h2 h3=>Jt8 (n:=n) (seen:=ls) (e:=(k,d,f)) h h2 h3);generalize badX n ls (k,d,f)=q at RR RD RT RN ⊢;simp only at RR RD RT RN;clear b7;by_cases h1:k<0
 ·have R:=Lib.hid (RR.out (.inl h1))
  clear RR RD RT RN P VD hm;go_enter func191,ntmps191
  go_wp2_with fail
  go_ret;exact⟨Jad R.out.symm,B7.out⟩
 have d1:decide (k<0)=false:=decide_eq_false h1;by_cases h2:n≤k
 ·have R:=Lib.hid (RR.out (.inr h2))
  clear RR RD RT RN P VD hm h1;go_enter func191,ntmps191
  go_wp2_with fail
  go_ret;exact⟨Jad R.out.symm,B7.out⟩
 have d2:decide (n≤k)=false:=decide_eq_false h2;have hn:¬(k<0∨n≤k):=by omega
 by_cases h3:dayP d
 case neg =>
  have R:=Lib.hid (RD.out hn h3);rw [decide_eq_false h3] at VD;clear RR RD RT RN P hm h1 h2 h3 hn;go_enter func191,ntmps191
  go_wp2_with fail
  refine (VD.out _).mono ?_;rintro e w' ⟨rfl,rfl⟩;go_wp2_with fail
  go_ret;exact⟨Jad R.out.symm,B7.out⟩
 rw [decide_eq_true h3] at VD;by_cases h4:(k,d)∈ls
 ·have R:=Lib.hid (RT.out hn h3 h4)
  have LD:=decide_eq_true h4;clear RR RD RT RN h1 h2 h3 hn h4;go_enter func191,ntmps191
  go_wp2_with fail
  refine (VD.out _).mono ?_;rintro e w' ⟨rfl,rfl⟩;go_wp2_with fail
  refine P.out.mono ?_;rintro e w8 ⟨rfl,b8⟩;have lk:=(hm.out.below b8).look (k,d) hp;simp only at lk;rw [LD] at lk;have B7:=Lib.hid (B7.out.trans (b8.mono B7.out.size));clear b8 P hm;go_wp2_with fail
  go_ret;exact⟨Jad R.out.symm,B7.out⟩
 ·have R:=Lib.hid (RN.out hn h3 h4)
  have LD:=decide_eq_false h4;clear RR RD RT RN h1 h2 h3 hn h4;go_enter func191,ntmps191
  go_wp2_with fail
  refine (VD.out _).mono ?_;rintro e w' ⟨rfl,rfl⟩;go_wp2_with fail
  refine P.out.mono ?_;rintro e w8 ⟨rfl,b8⟩;have lk:=(hm.out.below b8).look (k,d) hp;simp only at lk;rw [LD] at lk;have B7:=Lib.hid (B7.out.trans (b8.mono B7.out.size));clear b8 P hm;go_wp2_with fail
  go_ret;exact⟨Jad R.out.symm,B7.out⟩
theorem kcx_any (v:Value) (l:List Ex) (n:Int) (hl:l.length≤9223372036854775807) (hs:∀(j:Nat) x,l[j]?=some x→Pl64 (plX x)) (w:World) (h:LstX w v l):Calls prog 103 #[v,.int .i64 n] w fun e w'=>e=.returned (.tuple #[.int .i64 ((chkX n l).1),.int .i64 ((chkX n l).2)])∧Below w.heap.size w w':=by
 have H:=Lib.hid h;have HS:=Lib.hid hs;clear hs;obtain⟨A,c,rfl,-,-,-⟩:=h;by_cases h64:256<l.length
 ·have R:=Lib.hid (Jt9 (n:=n) h64)
  have g:(256:Int)<(l.length:Int):=by omega
  generalize chkX n l=q at R ⊢;clear h64;go_enter func103,ntmps103
  go_wp2_with fail
  go_ret2;exact⟨ret_chk (by rw [R.out]) (by rw [R.out]),Below.refl _ _⟩
 have g:decide ((256:Int)<(l.length:Int))=false:=by rw [decide_eq_false_iff_not];omega
 have ST:=Lib.hid (Jrg (n:=n) (l:=l) (by omega));have h64':l.length≤256:=by omega
 have hmm:=@run_makeMap prog;generalize chkX n l=q at ST ⊢;clear h64;go_enter func103,ntmps103
 go_wp2_with fail
 go_loopw [16] (fun i wr=>∃k:Nat,i=.int .i64 k∧k≤l.length∧Hid (q=fbF (badX n) plX ((l.take k).map plX) k (l.drop k))∧Hid (MapP wr w.heap.size ((l.take k).map plX))∧Hid (Below w.heap.size w wr)) (fun i _=>l.length - (intOf i).toNat)
 case atStart=>exact⟨0,rfl,Nat.zero_le _,ST,Lib.hid (MapP.made w),Lib.hid ((Below.refl _ _).alloc (Nat.le_refl _) _)⟩
 case round =>
  clear g ST hmm;obtain⟨k,rfl,hk,hz,HM,HB⟩:=hrel;by_cases hlt:k<l.length
  ·obtain⟨⟨ki,di,fi⟩,hx⟩:=Jao hlt
   have hpl:Hid (Pl64 (ki,di)):=HS.out k _ hx;obtain⟨b,o,rfl,hb,r0,r1,r2⟩:=three_at (H.out.below HB.out) hx;have gk:(k:Int)<(l.length:Int):=by omega
   obtain⟨w7,hw7⟩:∃W,wr.alloc (.cells #[.int .i64 ki,.int .i64 di,.bool fi] 116 (0,0))=W:=⟨_,rfl⟩;obtain⟨b7,p0,p1,p2,s7⟩:=Jua hw7;have B7:Hid (Below w.heap.size w w7):=HB.out.trans (b7.mono HB.out.size);have M7:=Lib.hid (HM.out.below b7);have C:=Lib.hid (Jzj ki di fi n hpl.out w.heap.size ((l.take k).map plX) w7 M7.out);by_cases he:badX n ((l.take k).map plX) (ki,di,fi)=0
   ·have N:=Lib.hid (Jdz hz.out hx he)
    have T:=Lib.hid (Jdy (key:=plX) hx);have hil:Hid (((l.take k).map plX).length≤256):=by show _≤_;rw [List.length_map,List.length_take];omega
    rw [he] at C;clear hx hz HB HM b7 hb he;go_wp2_with fail
    refine C.out.mono ?_;rintro e w8 ⟨rfl,b8⟩;have q0:=(b8.cell (p:=⟨wr.heap.size,0,none⟩) s7).trans p0;have q1:=(b8.cell (p:=⟨wr.heap.size,1,none⟩) s7).trans p1;have q2:=(b8.cell (p:=⟨wr.heap.size,2,none⟩) s7).trans p2;have B8:Hid (Below w.heap.size w w8):=B7.out.trans (b8.mono B7.out.size);have M8:=Lib.hid (M7.out.below b8);clear b8 p0 p1 p2 B7 M7 C;go_wp2_with fail
    refine (Jk6 ki di fi w8).mono ?_;rintro e w9 ⟨rfl,b9⟩;have B9:Hid (Below w.heap.size w w9):=B8.out.trans (b9.mono B8.out.size);have M9:=Lib.hid (M8.out.below b9);clear b9 B8 M8 q0 q1 q2;go_wp2_with (at_mapUpdate;refine J81 _ rfl _ _ _ rfl w.heap.size ((l.take k).map plX) rfl M9.out (ki,di) hpl.out rfl rfl (by have:=hil.out;omega) ?_;intro w10 m10 g10)
    have M:Hid (MapP w10 w.heap.size ((l.take (k+1)).map plX)):=by
     show MapP _ _ _
     rw [T.out];exact m10
    have B:Hid (Below w.heap.size w w10):=B9.out.grown g10 B9.out.size (fun j hj=>by cases hj;exact Nat.le_refl _);clear m10 g10 M9 B9;go_wp2_with fail
    go_roundw
    case rel=>exact⟨k+1,by go_num,by omega,N,M,B⟩
    case measure=>simp [intOf];omega
   ·have R:=Lib.hid (Ja7 hz.out hx rfl he)
    have ne:=Jae he;generalize badX n ((l.take k).map plX) (ki,di,fi)=y at C R ne;clear hx hz HB HM b7 hb he;go_wp2_with fail
    refine C.out.mono ?_;rintro e w8 ⟨rfl,b8⟩;have B8:Hid (Below w.heap.size w w8):=B7.out.trans (b8.mono B7.out.size);clear b8 B7 C p0 p1 p2;go_wp2_with fail
    go_ret2;exact⟨ret_chk (by rw [R.out]) (by rw [R.out]),B8.out⟩
  ·have R:=Lib.hid (Jd0 hz.out (by omega))
   have d:decide (k<l.length)=false:=by rw [decide_eq_false_iff_not];exact hlt
   clear hz hlt HM;go_wp2_with fail
   go_ret2;exact⟨ret_chk (by rw [R.out]) (by rw [R.out]),HB.out⟩
open Go.RowKit Go.ChangeShapes Go.WideShapes Go.Deep
end S14
section
open Go.RowKit
def Juc:List Int:=Lib.deBruijn64tab.map fun n:Nat=>(n:Int)
def Good (w:World):Prop:=Lib.TabIs prog w "math/bits.deBruijn64tab" .u8 Juc
theorem gTab:prog.globalNamed "math/bits.deBruijn64tab"=some 6:=by kernel_rfl
theorem var_size {w:World} {n:String} {g:Nat} {cs:Array Value} (hg:prog.globalNamed n=some g) (h:w.var? prog n=some cs):g<w.heap.size:=by
 unfold World.var? at h;simp only [hg,Option.bind_some] at h;by_cases hs:g<w.heap.size
 ·exact hs
 ·rw [Array.getElem?_eq_none (by omega)] at h
  cases h
theorem Good.below {w w':World} (h:Good w) (b:Below w.heap.size w w'):Good w':=var?_below b gTab (var_size gTab h) h
theorem Good.tab {w:World} (h:Good w) (r:Nat) (hr:r<64):w.cell? ⟨6,r,none⟩=some (.int .u8 (Juc.getD r 0)):=Lib.TabIs.cell h gTab r hr
theorem Jzk (x:Nat) (h0:x≠0) (hx:W64 x):IntKind.u64.wrap (-(x:Int))=((18446744073709551616 - x:Nat):Int):=by
 rw [IntKind.wrap_u64];unfold W64 at hx;omega
theorem J5b (X m a p k:Int) (idx:Nat) (hX:(X==0)=false) (h1:IntKind.u64.wrap (-X)=m) (h2:bits BinOp.and IntKind.u64 X m=a) (h3:IntKind.u64.wrap (a*285870213051353865)=p) (h4:p / 288230376151711744=idx) (hi:idx<64)
  (w:World) (hc:w.cell? ⟨6,idx,none⟩=some (.int .u8 k)) (k0:0≤k) (k1:k<64):Calls prog 346 #[.int .u64 X] w fun e w'=>e=.returned (.int .i64 k)∧w=w':=by
 go_enter func346,ntmps346
 go_wp2_with fail
 go_ret;exact⟨rfl,rfl⟩
theorem J82 (x:Nat) (hx:W64 x) (h0:x≠0) (w:World) (hg:Good w):Calls prog 346 #[.int .u64 (x:Int)] w fun e w'=>e=.returned (.int .i64 ((Lib.ctz 64 x:Nat):Int))∧w=w':=by
 obtain⟨hlow,hk⟩:=Lib.lowest_bit 64 x h0 hx;obtain⟨hi,htab⟩:=Lib.deBruijn64_at _ hk;have hc:=hg.tab _ hi;have e:Juc.getD (2 ^ Lib.ctz 64 x*285870213051353865 % 18446744073709551616 / 288230376151711744) 0=((Lib.ctz 64 x:Nat):Int):=by
  conv=>rhs;rw [←htab]
  unfold Juc;rw [List.getD_eq_getElem?_getD,List.getD_eq_getElem?_getD,List.getElem?_map];cases Lib.deBruijn64tab[2 ^ Lib.ctz 64 x*285870213051353865 % 18446744073709551616 / 288230376151711744]? <;> rfl
 rw [e] at hc;have hp:=Jgw hk;refine J5b x ((18446744073709551616 - x:Nat):Int) ((2 ^ Lib.ctz 64 x:Nat):Int) ((2 ^ Lib.ctz 64 x*285870213051353865 % 18446744073709551616:Nat):Int) _ _ (Jac (by omega)) (Jzk x h0 hx) ?_ ?_ ?_ hi w hc (Int.natCast_nonneg _) (by omega)
 ·rw [bits_and_u64_nat x _ hx (by omega)]
  exact congrArg _ hlow
 ·rw [IntKind.wrap_u64,Int.natCast_emod,Int.natCast_mul]
  rfl
 ·rw [Int.natCast_ediv]
  rfl
def minB (s:Nat):Nat:=if s=0 then 0 else Lib.ctz 64 s
theorem J5c (x:Nat) (hx:W64 x) (w:World) (hg:Good w):Calls prog 306 #[.int .u64 (x:Int)] w fun e w'=>e=.returned (.tuple #[.int .i64 ((minB x:Nat):Int),.bool (decide (x≠0))])∧w=w':=by
 by_cases h0:x=0
 ·subst h0
  go_enter func306,ntmps306
  go_wp2_with fail
  go_ret2;exact⟨rfl,rfl⟩
 ·have M:=Lib.hid (J82 x hx h0 w hg)
  have R:=Lib.hid (show minB x=Lib.ctz 64 x by unfold minB;rw [if_neg h0]);have g:((x:Int)==0)=false:=Jac (by omega);have D:=Lib.hid (show decide (x≠0)=true by simp [h0]);rw [D.out,R.out];clear h0;generalize Lib.ctz 64 x=k at M ⊢;go_enter func306,ntmps306
  go_wp2_with fail
  refine (M.out).mono ?_;rintro e w' ⟨rfl,rfl⟩;go_wp2_with fail
  go_ret2;exact⟨rfl,rfl⟩
theorem J5d {s:Nat} (hs:W64 s) (h0:s≠0):minB s<64∧s.testBit (minB s)=true∧∀j,j<minB s→s.testBit j=false:=by
 unfold minB;rw [if_neg h0];obtain⟨m,hm,hk⟩:=Lib.ctzFrom_spec 64 s (by omega) hs;have e:Lib.ctz 64 s=Lib.ctzFrom 64 s:=by simp [Lib.ctz,h0]
 rw [e];generalize Lib.ctzFrom 64 s=k at hm hk;have hp:=Nat.two_pow_pos k;refine⟨hk,?_,fun j hj=>?_⟩
 ·rw [hm,Nat.testBit_two_pow_mul]
  simp [Nat.testBit_zero]
 ·rw [hm,Nat.testBit_two_pow_mul]
  simp;omega
end
end Go.Proofs.YtpifdbphmnifdaaGreatDoor
