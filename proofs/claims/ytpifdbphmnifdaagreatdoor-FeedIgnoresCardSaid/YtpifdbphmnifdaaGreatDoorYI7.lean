/-
  Facts of the proof. Condition: each theorem's own.
-/
import Derived.StillTailTactics
import Derived.Test.YtpifdbphmnifdaaGreatDoorYI6
set_option maxRecDepth 100000
set_option maxHeartbeats 8000000
open Go.Proofs.Tryz
namespace Go.Proofs.YtpifdbphmnifdaaGreatDoor
namespace S18
open Go.RowKit
attribute [local go_sem] Oper.semAt_some
theorem Jli (t a b v:Int) (w:World):Calls prog 332 #[fqV t a b v] w fun e w'=>e=.returned (.func (.func 359) #[] #[.pointer (some ⟨w.heap.size,0,none⟩)])∧w'=w.alloc (boxF t a b v):=by
 go_enter func332,ntmps332
 go_wp2_with fail
 go_ret;exact⟨rfl,rfl⟩
theorem J9b {α:Type} {J:α→World→Prop} {W W':World} {n:Nat} {s:α} (h:AbidesFrom n J) (hJ:J s W) (hb:Below W.heap.size W W'):J s W' :=
 h s W W' none hJ ⟨hb.os,hb.tape,hb.output,hb.size,fun k hk _=>hb.block k hk⟩ (fun r e=>by cases e)
theorem Jnc (t a b v:Int) (n bk:Nat) (hn:1≤n) (l:Nat) (J Jx:List Int→World→Prop) (W:World) (hJ:AbidesFrom W.heap.size J) (hc:W.heap[bk]?=some (boxF t a b v))
  (hY:∀(pre:List Int) (x:Int) W1,J pre W1→pre.length<172800→YieldAt Fence.wide (n - 1) prog l #[.int .i64 x] W1 fun e W'=>(e=.returned (.bool true)∧J (pre++[x]) W'∧W'.heap[bk]?=W1.heap[bk]?)∨(e=.returned (.bool false)∧Jx (pre++[x]) W')) (h0:J [] W) :
  CallsIn Fence.wide n prog 359 #[.func (.yield l) #[] #[],.pointer (some ⟨bk,0,none⟩)] W fun e W'=>(∃v,e=.returned v)∧((∃xs,xs=stsF (t,a,b,v)∧J xs W')∨(∃pre,pre <+: stsF (t,a,b,v)∧Jx pre W')):=by
 refine callsIn_of_wp func359 rfl trivial ?_ rfl;simp only [ntmps359,List.size_toArray,List.length_cons,List.length_nil,Nat.reduceAdd,Nat.reduceSub,Array.replicate_succ,Array.replicate_zero,List.push_toArray,List.append_toArray,List.nil_append,List.cons_append];obtain⟨p0,p1,p2,p3⟩:=Jb4 hc;have S:=Lib.hid (Jjl t a b v W);have HY:=Lib.hid hY;have HC:=Lib.hid hc;have H0:=Lib.hid h0;have HJ:=Lib.hid hJ;have hbk:bk<W.heap.size:=(Array.getElem?_eq_some_iff.1 hc).1;have HK:=Lib.hid hbk;clear hc hY h0 hJ hbk;cases h:sndF (t,a,b,v) with
 | false =>
  have E:=Lib.hid (J3g h);rw [h] at S;clear h;gi_wp2_with (refine⟨trivial,?_⟩;gi_at_call 263;refine (callsIn_wide.2 S.out).mono ?_;rintro e w' ⟨rfl,b1⟩)
  refine bodyPost_ret (results_none rfl _ _ _) rfl ?_;exact⟨⟨_,rfl⟩,.inl ⟨[],E.out.symm,J9b HJ.out H0.out b1⟩⟩
 | true =>
  have E:=Lib.hid (Jm9 h);obtain⟨h1,h2,h3,h4,h5⟩:=Jf3.1 h;have HH:=Lib.hid h;have LE:=Lib.hid (Jus h);rw [h] at S;clear h;gi_wp2_with (refine⟨trivial,?_⟩;gi_at_call 263;refine (callsIn_wide.2 S.out).mono ?_;rintro e w' ⟨rfl,b1⟩;obtain⟨z0,z1,z2,z3⟩:=Jb4 ((b1.block bk HK.out).trans HC.out))
  have J1:=Lib.hid (J9b HJ.out H0.out b1);have C1:Hid (w'.heap[bk]?=some (boxF t a b v)):=(b1.block bk HK.out).trans HC.out;clear b1 S z0 z1 z2 z3 p0 p1 p2 p3 HC H0;gi_loopw [3] (fun i wr=>∃(k:Nat) (s:Int),i=.int .i64 s∧Hid (s=nthF (t,a,b,v) k)∧0≤s∧Hid (k≤cntF (t,a,b,v))∧Hid (J ((lstF (t,a,b,v)).take k) wr)∧Hid (wr.heap[bk]?=some (boxF t a b v))) (fun i _=>(172800 - intOf i).toNat)
  case atStart=>exact⟨0,a,rfl,Lib.hid (Jji (t,a,b,v)).symm,h1,Lib.hid (Nat.zero_le _),J1,C1⟩
  case round =>
   clear J1 C1;obtain⟨k,s,rfl,hs,hs0,hk,HJ1,HC1⟩:=hrel;obtain⟨q0,q1,q2,q3⟩:=Jb4 HC1.out;by_cases hlt:s<b
   ·have hkc:k<cntF (t,a,b,v):=(Jpe HH.out k).2 (by rw [←hs.out];exact hlt)
    have N:=Lib.hid (Jzu hkc);have N2:Hid (s+v=nthF (t,a,b,v) (k+1)):=by rw [Jzt,←hs.out];exact rfl
    have K2:Hid (k+1≤cntF (t,a,b,v)):=hkc;have hlen:((lstF (t,a,b,v)).take k).length<172800:=by rw [List.length_take];have:=LE.out;omega
    rw [←hs.out] at N;obtain⟨fn,tmps,assign,body,hy,hR⟩:=HY.out ((lstF (t,a,b,v)).take k) s _ HJ1.out hlen;have HR:=Lib.hid hR;have HP:Hid ((lstF (t,a,b,v)).take k++[s] <+: stsF (t,a,b,v)):=by
     show _ <+: _
     rw [E.out,←N.out];exact J5o _
    clear hkc hk hs hR hlen;gi_wp2
    refine HR.out.mono ?_;rintro e W3 (⟨rfl,hJ3,hk3⟩ | ⟨rfl,hJx3⟩)
    ·have J3:Hid (J ((lstF (t,a,b,v)).take (k+1)) W3):=by
      show J _ _
      rw [N.out];exact hJ3
     have C3:Hid (W3.heap[bk]?=some (boxF t a b v)):=hk3.trans HC1.out;obtain⟨z0,z1,z2,z3⟩:=Jb4 C3.out;clear hJ3 hk3 HC1 HJ1 q0 q1 q2 q3;gi_wp2
     go_roundw
     case rel=>exact⟨k+1,s+v,by go_num,N2,by omega,K2,J3,C3⟩
     case measure=>simp [intOf];omega
    ·have J3:=Lib.hid hJx3
     clear hJx3 HC1 HJ1 q0 q1 q2 q3;gi_wp2
     refine bodyPost_end (results_none rfl _ _ _) rfl ?_;exact⟨⟨_,rfl⟩,.inr ⟨_,HP.out,J3.out⟩⟩
   ·have d:decide (s<b)=false:=decide_eq_false hlt
    have hkc:k=cntF (t,a,b,v):=by
     have h6:=hk.out;rcases Nat.lt_or_ge k (cntF (t,a,b,v)) with h7 | h7
     ·exact absurd (show s<b by rw [hs.out];exact (Jpe HH.out k).1 h7) hlt
     ·omega
    have O:=Lib.hid HJ1.out;rw [hkc,J5n,←E.out] at O;clear hlt hkc hk hs HJ1;gi_wp2
    refine⟨fun _ h=>(by cases h),?_⟩;gi_wp2
    refine bodyPost_end (results_none rfl _ _ _) rfl ?_;exact⟨⟨_,rfl⟩,.inl ⟨_,rfl,O.out⟩⟩
open Go.RowKit Go.Sort
theorem Jrq {w:World} {g n:Nat} {os:Array Obj} {cur:Array Value} {e:TypeId} {fr:Nat×Nat} (d:Array Int) (hb:w.heap[g]?=some (.cells cur e fr)) :
  (grow (putRow (Value.int .i64) (Sort.ahead w n) g 0 d) os).heap[g]?=some (.cells (putCells (Value.int .i64) 0 d cur) e fr):=by
 have hg:g<w.heap.size:=(Array.getElem?_eq_some_iff.1 hb).1;rw [heap_grow_old _ _ (by simpa [putRow,mapBlock,Sort.ahead] using hg)];simp [putRow,mapBlock,Sort.ahead,Array.getElem?_modify,hb,onCells]
theorem Jnd {w:World} {g n base:Nat} {os:Array Obj} (d:Array Int) (hb:base≤g) (hl:base≤w.heap.size):RowKit.Below base w (grow (putRow (Value.int .i64) (Sort.ahead w n) g 0 d) os):=by
 refine⟨rfl,rfl,rfl,by simp [putRow,mapBlock,Sort.ahead],fun j hj=>?_⟩;rw [heap_grow_old _ _ (by simp [putRow,mapBlock,Sort.ahead];omega)];have:g≠j:=by omega
 simp [putRow,mapBlock,Sort.ahead,Array.getElem?_modify,this]
theorem Jrr {w:World} {g:Nat} {T:TypeId} {cur:Array Value} {l:List Int} (hb:w.heap[g]?=some (.cells cur T (0,0))) (ht:cur.toList.take l.length=ints l):Holds (Value.int .i64) w g 0 l.toArray:=by
 intro j hj;have hj':j<l.length:=by simpa using hj
 refine⟨?_,by simp [World.frozen?,hb]⟩;have h1:(cur.toList.take l.length)[j]?=(ints l)[j]?:=by rw [ht]
 rw [List.getElem?_take_of_lt hj'] at h1;rw [cell_of_row w g (0+j) cur _ _ hb,Nat.zero_add,←Array.getElem?_toList,h1];simp [hj']
theorem Jne {w:World} {g cap m:Nat} {T:TypeId} {os:Array Obj} {cur:Array Value} (l:List Int) (hb:w.heap[g]?=some (.cells cur T (0,0))) (hl:l.length≤cur.size) (hc:l.length≤cap) :
  LstI (grow (putRow (Value.int .i64) (Sort.ahead w m) g 0 l.toArray) os) (.slice (some ⟨g,0,none⟩) l.length cap) l:=by
 have hh:=Jrq (n:=m) (os:=os) l.toArray hb;refine⟨some ⟨g,0,none⟩,cap,rfl,hc,fun h=>absurd h (by simp),fun _=>⟨g,0,rfl,(Array.getElem?_eq_some_iff.1 hh).1,fun j x hj=>?_⟩⟩;rw [Nat.zero_add,cell_of_row _ g j _ _ _ hh,←hj];have hjl:j<l.length:=by
  have:=(List.getElem?_eq_some_iff.1 hj).1;rw [List.length_map] at this;exact this
 simp [putCells,hjl,show j<cur.size by omega]
attribute [local go_sem] Oper.semAt_some
theorem Jgm (t a b v:Int) (n bk:Nat) (hn:1≤n) (w0:World) (hc:w0.heap[bk]?=some (boxF t a b v)) :
  SeqStopsK Fence.wide n prog 359 #[.pointer (some ⟨bk,0,none⟩)] (fun x:Int=>#[.int .i64 x]) (fun A B=>B.heap[bk]?=A.heap[bk]?) (fun xs=>xs=stsF (t,a,b,v)) (fun pre=>pre <+: stsF (t,a,b,v)) 172800 w0:=fun l J Jx W hW hJ _ hY h0 =>
 Jnc t a b v n bk hn l J Jx W hJ ((hW.block bk (Array.getElem?_eq_some_iff.1 hc).1).trans hc) (fun pre x W1 h1 h2=>hY pre x W1 h1 h2) h0
theorem J3i {bk:Nat} {A B C:World} (h:B.heap[bk]?=A.heap[bk]?) (k:C.heap[bk]?=B.heap[bk]?):C.heap[bk]?=A.heap[bk]?:=k.trans h
theorem J3j {bk:Nat} {w:World} (hb:bk<w.heap.size) (W:World) (l:Nat) (o o':Obj) (hl:w.heap.size≤l) (h:W.heap[l]?=some o) (_:o.isCells=false) (_:o.isWalk=false):(W.putObj l o').heap[bk]?=W.heap[bk]? :=
 (grownBy_putObj' W l o').block bk (by have:=(Array.getElem?_eq_some_iff.1 h).1;omega) (by simp;omega)
theorem Jpj {β:Type} (B bk:Nat) (t a b v:Int):OwnFrom B (fun (_:β) (W:World)=>W.heap[bk]?=some (boxF t a b v)):=by
 intro s W W' row hs hg hr;refine (hg.block bk (Array.getElem?_eq_some_iff.1 hs).1 ?_).trans hs;intro e;obtain⟨o,ho,hc⟩:=(hr bk e.symm).2;rw [hs] at ho;cases ho
 cases hc
theorem Ju5 {W:World} {bk:Nat} {cs:Array Value} {T e:TypeId} {fr:Nat×Nat} (h:W.heap[bk]?=some (.cells cs T fr)) (hte:T≠e) {base size k:Nat} {v:Value} {xs:List Value} (hr:W.ownsRow base e size v k xs):some bk≠v.ownBlock:=by
 intro e';rcases hr.2 with ⟨rfl,_⟩ | ⟨g,cap,cur,rfl,_,hg,_⟩
 ·simp [Value.ownBlock] at e'
 ·obtain rfl:bk=g:=by simpa [Value.ownBlock] using e'
  rw [h] at hg;cases hg
  exact hte rfl
theorem Jpk {W w1:World} {n₀ bk M k:Nat} {t a b v:Int} {u u':Value} {tmp:Obj} {xs:List Value} (hb:W.heap[bk]?=some (boxF t a b v)) (hrow:W.ownsRow n₀ 3 1 u k xs) (hg:(W.alloc tmp).grownBy w1 u.ownBlock) (hne:bk≠M):(w1.setCell ⟨M,0,none⟩ u').heap[bk]?=W.heap[bk]?:=by
 have hlt:=(Array.getElem?_eq_some_iff.1 hb).1;rw [Below.heap_setCell _ _ _ bk hne];exact (hg.block bk (by simp;omega) (Ju5 hb (by decide) hrow)).trans (by first | exact Go.heap_alloc_old _ _ hlt | exact Go.heap_alloc_old _ _ _ hlt)
theorem Jrs (t a b v:Int) (w:World):CallsIn Fence.wide 3 prog 265 #[fqV t a b v] w fun e W'=>∃u,e=.returned u∧OwnI W' w.heap.size u (stsF (t,a,b,v))∧Below w.heap.size w W':=by
 obtain⟨i0,hi,hz0,hz1,hz2⟩:=info_parts Jje;refine callsIn_of_wp_marks func265 rfl trivial ?_ rfl;simp only [ntmps265,List.size_toArray,List.length_cons,List.length_nil,Nat.reduceAdd,Nat.reduceSub,Array.replicate_succ,Array.replicate_zero,List.push_toArray,List.append_toArray,List.nil_append,List.cons_append];obtain⟨w7,hw7⟩:∃W,w.alloc (boxF t a b v)=W:=⟨_,rfl⟩;obtain⟨b7,p0,p1,p2,p3,s7,c7⟩:=Jfb hw7;obtain⟨w8,hw8⟩:∃W,w7.alloc (.cells #[.slice none 0 0] 84 (0,0))=W:=⟨_,rfl⟩;have b8:Below w7.heap.size w7 w8:=by rw [←hw8];exact (Below.refl _ _).alloc (Nat.le_refl _) _
 have x8:Boxed w8 w7.heap.size 84 (.slice none 0 0):=by rw [←hw8];exact Boxed.new _ _ _
 obtain⟨q0,q1,q2,q3⟩:=Jb4 ((b8.block _ s7).trans c7);have B8:Hid (Below w.heap.size w w8):=b7.trans (b8.mono b7.size);have z8:w.heap.size<w8.heap.size:=Nat.lt_of_lt_of_le s7 b8.size;have z7:w7.heap.size<w8.heap.size:=x8.lt;have Z7:w.heap.size≤w7.heap.size:=b7.size;obtain⟨w9,hw9⟩:∃W,w8.alloc (boxF t a b v)=W:=⟨_,rfl⟩;obtain⟨b9,-,-,-,-,s9,c9⟩:=Jfb hw9;have x9:Boxed w9 w7.heap.size 84 (.slice none 0 0):=(b9.block _ z7).trans x8;have B9:Below w.heap.size w w9:=B8.out.trans (b9.mono B8.out.size);clear b7 b8 c7 s7 p0 p1 p2 p3 b9;gi_wp2_with (refine⟨trivial,?_⟩;gi_at_call 332;refine (callsIn_wide.2 (Jli t a b v _)).mono ?_;rintro e w' ⟨rfl,rfl⟩)
 clear hw9 hw8 hw7;refine wpIn_rangeFunc_ownG rfl (show 1≤3 by decide) (gf:=359) (lb:=#[.pointer (some ⟨w8.heap.size,0,none⟩)]) rfl trivial (enters_of func359 (by kernel_rfl) rfl)
  (Jgm t a b v (3 - 1) w8.heap.size (by decide) w9 c9) J3i (J3j s9) (Below.refl _ _) (fun _=>rfl)
  (fun pre W=>(∃u,Boxed W w7.heap.size 84 u∧W.ownsRow w.heap.size 3 1 u pre.length (ints pre)∧True)∧Below w.heap.size w W∧W.heap[w8.heap.size]?=some (boxF t a b v))
  (fun _ _ _=>False)
  (OwnFrom.and (Own.from (holdsRow_own w.heap.size w7.heap.size 84 3 1 (fun pre=>pre.length) (fun pre=>ints pre) (fun _ _=>True)) _) (OwnFrom.and (ownFrom_below (Nat.le_refl _) (by omega)) (Jpj _ _ t a b v)))
  (fun _ _ _ _ _ hs _ _=>hs)
  ⟨⟨_,x9,World.ownsRow_nil _ _ _ _,trivial⟩,B9,c9⟩
  (fun x=>{ tmps:=#[fqV t a b v,.pointer (some ⟨w.heap.size,0,none⟩),.slice none 0 0,.pointer (some ⟨w7.heap.size,0,none⟩),.int .i64 x,fqV t a b v,.func (.func 359) #[] #[.pointer (some ⟨w8.heap.size,0,none⟩)],.int .i64 x,undef,undef,undef,undef,undef],defers:=[] }) ?assign ?body ?done ?stop
 case assign =>
  intro l x W K hK;gi_wp2
  exact hK
 case body =>
  rintro l pre x W ⟨⟨u,hv,hrow,-⟩,hB,hX⟩ hlt;have hc:=hv.cell;gi_wp2_with (gi_at_builtin;refine wpListIn_append_own _ rfl _ _ 84 rfl w.heap.size 3 i0 (.int .i64 0) 1 8 underlying84 hi hz0 hz1 hz2 rfl (by decide) _ _ _ rfl (hrow.alloc _) ⟨W.heap.size,0,none⟩ 1 1 [.int .i64 x] rfl rfl (cell_one_new _ _ _) (by simp [Value.oneCell']) (by unfold maxLen;omega) (by omega) (by have:=hB.size;simp;omega) ?_;intro v' w1 hown' hgrow _;obtain⟨g',cap',rfl⟩:=ownsRow_succ hown';obtain⟨hv1,hv2,hr2,hk2,hb2⟩:=hv.appended (by decide) hrow hB.size Z7 hown' hgrow;have hkp:=Jpk (u':=.slice (some ⟨g',0,none⟩) (pre.length+1) cap') hX hrow hgrow (show w8.heap.size≠w7.heap.size by omega);have hc1:=hv1.cell;have hf1:=hv1.frozen)
  exact⟨hk2.from _,hkp,⟨_,hv2,by simpa using hr2,trivial⟩,hB.trans hb2,hkp.trans hX⟩
 case done =>
  rintro D ys W hD rfl ⟨⟨u,hv,hrow,-⟩,hB,hX⟩ hK;have hc:=hv.cell;gi_wp2
  refine⟨by simp,.inl ⟨_,_,rfl,run_takeDeferred hK,?_⟩⟩;exact⟨_,results_tmp rfl _ _ _,u,rfl,ownsRow_putObj hrow _ hK rfl,hB.trans (belowK_b (w:=w) (Nat.le_refl _) W D _ _ (by omega) hK rfl rfl)⟩
 case stop =>
  rintro D c pre W _ _ h _;exact h.elim
theorem Jnf (t a b v:Int) (w:World):Calls prog 265 #[fqV t a b v] w fun e W'=>∃u,e=.returned u∧OwnI W' w.heap.size u (stsF (t,a,b,v))∧Below w.heap.size w W':=callsIn_wide.1 (Jrs t a b v w)
open Go.RowKit Go.Shelf Go.Sort
attribute [local go_sem] Oper.semAt_some
theorem Ju6 (t a b v:Int) (M:Nat) (u0:Value) (l:List Int) (hl:l.length≤1000000000) (w:World) (h0:Boxed w M 84 u0) (hr0:w.ownsRow M 3 1 u0 l.length (ints l)) :
  CallsIn Fence.wide 3 prog 333 #[fqV t a b v,.pointer (some ⟨M,0,none⟩)] w fun e W'=>e=.returned (.tuple #[])∧∃u,Boxed W' M 84 u∧W'.ownsRow M 3 1 u (l++stsF (t,a,b,v)).length (ints (l++stsF (t,a,b,v)))∧RowKit.Below M w W':=by
 obtain⟨i0,hi,hz0,hz1,hz2⟩:=info_parts Jje;refine callsIn_of_wp_marks func333 rfl trivial ?_ rfl;simp only [ntmps333,List.size_toArray,List.length_cons,List.length_nil,Nat.reduceAdd,Nat.reduceSub,Array.replicate_succ,Array.replicate_zero,List.push_toArray,List.append_toArray,List.nil_append,List.cons_append];have hM:=h0.lt;obtain⟨w7,hw7⟩:∃W,w.alloc (boxF t a b v)=W:=⟨_,rfl⟩;obtain⟨b7,p0,p1,p2,p3,s7,c7⟩:=Jfb hw7;have x7:Boxed w7 M 84 u0:=(b7.block _ hM).trans h0;have r7:w7.ownsRow M 3 1 u0 l.length (ints l):=Jfz hr0 b7;obtain⟨w9,hw9⟩:∃W,w7.alloc (boxF t a b v)=W:=⟨_,rfl⟩;obtain⟨b9,-,-,-,-,s9,c9⟩:=Jfb hw9;have x9:Boxed w9 M 84 u0:=(b9.block _ x7.lt).trans x7;have r9:w9.ownsRow M 3 1 u0 l.length (ints l):=Jfz r7 b9;have B9:RowKit.Below M w w9:=(b7.mono (Nat.le_of_lt hM)).trans (b9.mono (Nat.le_of_lt x7.lt));have hMz:M<w7.heap.size:=x7.lt;clear b7 c7 s7 b9 x7 r7 h0 hr0;gi_wp2_with (refine⟨trivial,?_⟩;gi_at_call 332;refine (callsIn_wide.2 (Jli t a b v _)).mono ?_;rintro e w' ⟨rfl,rfl⟩)
 clear hw9 hw7;refine wpIn_rangeFunc_ownG rfl (show 1≤3 by decide) (gf:=359) (lb:=#[.pointer (some ⟨w7.heap.size,0,none⟩)]) rfl trivial (enters_of func359 (by kernel_rfl) rfl)
  (Jgm t a b v (3 - 1) w7.heap.size (by decide) w9 c9) J3i (J3j s9) (RowKit.Below.refl _ _) (fun _=>rfl)
  (fun pre W=>(∃u,Boxed W M 84 u∧W.ownsRow M 3 1 u (l++pre).length (ints (l++pre))∧True)∧RowKit.Below M w W∧W.heap[w7.heap.size]?=some (boxF t a b v))
  (fun _ _ _=>False)
  (OwnFrom.and (Own.from (holdsRow_own M M 84 3 1 (fun pre=>(l++pre).length) (fun pre=>ints (l++pre)) (fun _ _=>True)) _) (OwnFrom.and (ownFrom_below (by omega) (by omega)) (Jpj _ _ t a b v)))
  (fun _ _ _ _ _ hs _ _=>hs)
  ⟨⟨_,x9,by rw [List.append_nil];exact r9,trivial⟩,B9,c9⟩
  (fun x=>{ tmps:=#[fqV t a b v,.pointer (some ⟨M,0,none⟩),.pointer (some ⟨w.heap.size,0,none⟩),.int .i64 x,fqV t a b v,.func (.func 359) #[] #[.pointer (some ⟨w7.heap.size,0,none⟩)],.int .i64 x,undef,undef,undef,undef],defers:=[] }) ?assign ?body ?done ?stop
 case assign =>
  intro l x W K hK;gi_wp2
  exact hK
 case body =>
  rintro lb pre x W ⟨⟨u,hv,hrow,-⟩,hB,hX⟩ hlt;have hc:=hv.cell;have hlen:(l++pre).length≤2000000000:=by rw [List.length_append];omega
  have hWM:M≤W.heap.size:=Nat.le_of_lt hv.lt;have eap:l++(pre++[x])=(l++pre)++[x]:=(List.append_assoc _ _ _).symm;obtain⟨q,hq⟩:∃q,l++pre=q:=⟨_,rfl⟩;rw [hq] at hrow hlen eap;have EQ:=Lib.hid eap;clear eap hq;gi_wp2_with (gi_at_builtin;refine wpListIn_append_own _ rfl _ _ 84 rfl M 3 i0 (.int .i64 0) 1 8 underlying84 hi hz0 hz1 hz2 rfl (by decide) _ _ _ rfl (hrow.alloc _) ⟨W.heap.size,0,none⟩ 1 1 [.int .i64 x] rfl rfl (cell_one_new _ _ _) (by simp [Value.oneCell']) (by unfold maxLen;omega) (by omega) (by simp;omega) ?_;intro v' w1 hown' hgrow _;obtain⟨g',cap',rfl⟩:=ownsRow_succ hown';obtain⟨hv1,hv2,hr2,hk2,hb2⟩:=hv.appended (by decide) hrow hWM (Nat.le_refl _) hown' hgrow;have hkp:=Jpk (u':=.slice (some ⟨g',0,none⟩) (q.length+1) cap') hX hrow hgrow (show w7.heap.size≠M by omega);have hc1:=hv1.cell;have hf1:=hv1.frozen)
  exact⟨hk2.from _,hkp,⟨_,hv2,by rw [EQ.out];simpa using hr2,trivial⟩,hB.trans hb2,hkp.trans hX⟩
 case done =>
  rintro D ys W hD rfl ⟨⟨u,hv,hrow,-⟩,hB,hX⟩ hK;gi_wp2
  refine⟨by simp,.inl ⟨_,_,rfl,run_takeDeferred hK,?_⟩⟩;have hvD:=hv.kept (grownBy_putObj' W D (.deferred none)) (by simp;omega);exact⟨_,results_none rfl _ _ _,rfl,u,hvD,ownsRow_putObj hrow _ hK rfl,hB.trans (belowK_b (w:=w9) (by omega) W D _ _ hD hK rfl rfl)⟩
 case stop =>
  rintro D c pre W _ _ h _;exact h.elim
theorem Jrt (t a b v:Int) (M:Nat) (u0:Value) (l:List Int) (hl:l.length≤1000000000) (w:World) (h0:Boxed w M 84 u0) (hr0:w.ownsRow M 3 1 u0 l.length (ints l)) :
  Calls prog 333 #[fqV t a b v,.pointer (some ⟨M,0,none⟩)] w fun e W'=>e=.returned (.tuple #[])∧∃u,Boxed W' M 84 u∧W'.ownsRow M 3 1 u (l++stsF (t,a,b,v)).length (ints (l++stsF (t,a,b,v)))∧RowKit.Below M w W':=callsIn_wide.1 (Ju6 t a b v M u0 l hl w h0 hr0)
def Jz8 (w:World) (t:Int) (l:List Fq) (k:Nat) (wr:World):Prop :=
 ∃u,Boxed wr w.heap.size 84 u∧wr.ownsRow w.heap.size 3 1 u (insF t (l.take k)).length (ints (insF t (l.take k)))∧RowKit.Below w.heap.size w wr
theorem Ju7 (vl:Value) (l:List Fq) (hl:l.length≤5000) (tr:Int) (w:World) (h:LstF w vl l) :
  Calls prog 266 #[vl,.int .i64 tr] w fun e w'=>∃u,e=.returned u∧LstI w' u (srtI (insF tr l))∧RowKit.Below w.heap.size w w':=by
 have H:=Lib.hid h;obtain⟨A,n,rfl,-,-,-⟩:=h;obtain⟨w1,hw1⟩:∃W,w.alloc (.cells #[.slice none 0 0] 84 (0,0))=W:=⟨_,rfl⟩;have b1:RowKit.Below w.heap.size w w1:=by rw [←hw1];exact (RowKit.Below.refl _ _).alloc (Nat.le_refl _) _
 have x1:Boxed w1 w.heap.size 84 (.slice none 0 0):=by rw [←hw1];exact Boxed.new _ _ _
 have M1:Hid (Jz8 w tr l 0 w1):=⟨_,x1,World.ownsRow_nil _ _ _ _,b1⟩;clear b1 x1;go_enter func266,ntmps266
 go_wp2_with fail
 go_loopw [12] (fun i wr=>∃k:Nat,i=.int .i64 k∧k≤l.length∧Hid (Jz8 w tr l k wr)) (fun i _=>l.length - (intOf i).toNat)
 case atStart=>exact⟨0,rfl,Nat.zero_le _,M1⟩
 case round =>
  clear M1 hw1;obtain⟨k,rfl,hk,HM⟩:=hrel;obtain⟨u,hx,hr,hb⟩:=HM.out;by_cases hlt:k<l.length
  ·obtain⟨⟨t,a,b,v⟩,hf⟩:=Jao hlt
   obtain⟨p,o,rfl,hp,m0,m1,m2,m3⟩:=four_at (H.out.below hb) hf;have gk:(k:Int)<(l.length:Int):=by omega
   obtain⟨w7,hw7⟩:∃W,wr.alloc (boxF t a b v)=W:=⟨_,rfl⟩;obtain⟨b7,p0,p1,p2,p3,s7,c7⟩:=Jfb hw7;have x7:Boxed w7 w.heap.size 84 u:=(b7.block _ hx.lt).trans hx;have r7:=Jfz hr b7;have B7:Hid (RowKit.Below w.heap.size w w7):=hb.trans (b7.mono hb.size);have hlen:(insF tr (l.take k)).length≤1000000000:=by
    have:=Juu tr (l.take k);have h2:(l.take k).length≤5000:=by rw [List.length_take];omega
    omega
   by_cases ht:t=tr
   ·have g:=Jaq ht
    have C:=Lib.hid (Jrt t a b v w.heap.size u (insF tr (l.take k)) hlen w7 x7 r7);have N:=Lib.hid (J5p (t:=tr) hf ht);clear hf hp b7 c7 x7 r7 HM hx hr hb hlen ht;go_wp2_with fail
    refine C.out.mono ?_;rintro e w8 ⟨rfl,u8,x8,r8,b8⟩;have M8:Hid (Jz8 w tr l (k+1) w8):=⟨u8,x8,by rw [N.out];exact r8,B7.out.trans b8⟩;clear x8 r8 b8 C N B7;go_wp2_with fail
    go_roundw
    case rel=>exact⟨k+1,by go_num,by omega,M8⟩
    case measure=>simp [intOf];omega
   ·have g:=Jac ht
    have M8:Hid (Jz8 w tr l (k+1) w7):=⟨u,x7,by rw [J88 hf ht];exact r7,B7.out⟩;clear hf hp b7 c7 x7 r7 HM hx hr hb hlen ht;go_wp2_with fail
    go_roundw
    case rel=>exact⟨k+1,by go_num,by omega,M8⟩
    case measure=>simp [intOf];omega
  ·have dk:decide (k<l.length)=false:=by rw [decide_eq_false_iff_not];exact hlt
   rw [List.take_of_length_le (by omega)] at hr;have hel:=Juu tr l;generalize hE:insF tr l=E at hr hel;have VE:=Lib.hid hE;clear hE;have hc:=hx.cell;have hM:=hx.lt;have BB:=Lib.hid hb;clear hlt hk HM hb;rcases hr.2 with ⟨rfl,h0⟩ | ⟨g,cap,cur,rfl,hbg,hg,hn,hm,hcs,ht⟩
   ·have S0:=Lib.hid (fun W=>Tryz.slices_Sort_int_none none 0 W)
    have V0:Hid (E=[]):=List.length_eq_zero_iff.1 h0;clear hr hel h0;go_wp2_with fail
    refine (S0.out _).mono ?_;rintro e w' ⟨rfl,rfl⟩;go_wp2_with fail
    go_ret;exact⟨_,rfl,by rw [VE.out,V0.out,Jpd];exact LstI.nil _,BB.out⟩
   ·by_cases hz:E.length=0
    ·have S0:=Lib.hid (fun W=>Tryz.slices_Sort_int_none (some ⟨g,0,none⟩) cap W)
     have V0:Hid (E=[]):=List.length_eq_zero_iff.1 hz;rw [hz] at hc;clear hr hel hz hg hn hm hcs ht;go_wp2_with fail
     refine (S0.out _).mono ?_;rintro e w' ⟨rfl,rfl⟩;go_wp2_with fail
     go_ret;exact⟨_,rfl,by rw [VE.out,V0.out,Jpd];exact⟨_,_,rfl,Nat.zero_le _,fun h=>absurd h (by simp),fun h=>absurd h (Nat.lt_irrefl _)⟩,BB.out⟩
    ·have hgl:g<wr.heap.size:=(Array.getElem?_eq_some_iff.1 hg).1
     have hgM:w.heap.size≠g:=fun e=>by
      have h1:wr.heap[w.heap.size]?=_:=hx;rw [e,hg] at h1;cases h1
     rw [Nat.mul_one] at ht;have S1:=Tryz.slices_Sort_int g 0 cap E wr (Jrr hg ht) hgl (by omega);have FIN:Hid (∀(n:Nat) (os:Array Obj),LstI (grow (putRow (Value.int .i64) (Sort.ahead wr n) g 0 (srtI E).toArray) os) (.slice (some ⟨g,0,none⟩) E.length cap) (srtI E)∧RowKit.Below (w.heap.size+1) wr (grow (putRow (Value.int .i64) (Sort.ahead wr n) g 0 (srtI E).toArray) os)):=by
      intro n os;have q:=Jne (m:=n) (os:=os) (cap:=cap) (srtI E) hg (by rw [Jg1];omega) (by rw [Jg1];exact hn);rw [Jg1] at q;exact⟨q,Jnd _ (by omega) (by omega)⟩
     have SS:=Lib.hid S1;have HX:=Lib.hid hx;clear hr hel hg hn hm hcs ht S1 hz hgl hx;go_wp2_with fail
     refine SS.out.mono ?_;rintro e w2 ⟨rfl,n,os,hw2⟩;have K:=Lib.hid (FIN.out n os);rw [←show w2=grow (putRow (Value.int .i64) (Sort.ahead wr n) g 0 (srtI E).toArray) os from hw2] at K;have x2:Boxed w2 w.heap.size 84 (.slice (some ⟨g,0,none⟩) E.length cap):=(K.out.2.block _ (by omega)).trans HX.out;have c2:=x2.cell;clear hw2 FIN SS x2 hc;go_wp2_with fail
     go_ret;exact⟨_,rfl,by rw [VE.out];exact K.out.1,BB.out.trans (K.out.2.mono (by omega))⟩
theorem Jik (t d st:Int) (h0:0≤st) (h1:st≤172800) (ht:-9223372036854775808≤t∧t≤9223372036854775807) (hd:-9223372036854775808≤d∧d≤9223372036854775807) (w:World):Calls prog 358 #[.int .i64 t,.int .i64 d,.int .i64 st] w fun e w'=>e=.returned (.bool (inT d st t))∧w=w':=by
 by_cases h:t<d
 ·go_enter func358,ntmps358
  go_wp2_with fail
  go_ret;exact⟨Jaa (by rw [IntKind.wrap_u64,IntKind.wrap_u64,IntKind.wrap_u64];unfold inT;exact decide_eq_decide.2 (by omega)),rfl⟩
 ·have g:decide (t<d)=false:=decide_eq_false h
  go_enter func358,ntmps358
  go_wp2_with fail
  go_ret;exact⟨Jaa (by rw [IntKind.wrap_u64,IntKind.wrap_u64,IntKind.wrap_u64];unfold inT;exact decide_eq_decide.2 (by omega)),rfl⟩
theorem Jlj (v:Value) (l:List Cl) (hl:l.length≤1000000) (hs:OkS l) (st:Int) (w:World) (h:LstC w v l):Calls prog 331 #[v,.int .i64 st] w fun e w'=>e=.returned (.bool (fitC l st))∧Below w.heap.size w w':=by
 have H:=Lib.hid h;obtain⟨A,n,rfl,-,-,-⟩:=h;by_cases n0:st<0
 ·have R:=Lib.hid (Juv (l:=l) (st:=st) (by omega))
  clear hs hl;go_enter func331,ntmps331
  go_wp2_with fail
  go_ret;exact⟨Jaa R.out.symm,Below.refl _ _⟩
 by_cases n1:172800<st
 ·have g0:decide (st<0)=false:=decide_eq_false n0
  have R:=Lib.hid (Juv (l:=l) (st:=st) (by omega));clear hs hl;go_enter func331,ntmps331
  go_wp2_with fail
  go_ret;exact⟨Jaa R.out.symm,Below.refl _ _⟩
 have g0:decide (st<0)=false:=decide_eq_false n0;have g1:decide (172800<st)=false:=decide_eq_false n1;have HS:=Lib.hid hs;have z0:0≤st:=by omega
 have z1:st≤172800:=by omega
 clear hs;obtain⟨R,hR⟩:∃R,fitC l st=R:=⟨_,rfl⟩;rw [hR];have HR:=Lib.hid hR;clear hR;go_enter func331,ntmps331
 go_wp2_with fail
 go_loopw [16] (fun i wr=>∃k:Nat,i=.int .i64 k∧k≤l.length∧Hid (∀(j:Nat) x,j<k→l[j]?=some x→fitX (dpF l) st x=true)∧Hid (Below w.heap.size w wr)) (fun i _=>l.length - (intOf i).toNat)
 case atStart=>exact⟨0,rfl,Nat.zero_le _,Lib.hid (fun j x hj=>absurd hj (Nat.not_lt_zero _)),Lib.hid (Below.refl _ _)⟩
 case round =>
  clear g0 g1 n0 n1;obtain⟨k,rfl,hk,hall,HB⟩:=hrel;by_cases hlt:k<l.length
  ·obtain⟨⟨x,xa,xd,o,u⟩,hx⟩:=Jao hlt
   obtain⟨⟨y,ya,yd,yo,yu⟩,hy⟩:=Jao (l:=l) (k:=0) (by omega);have HW:=Lib.hid (H.out.below HB.out);obtain⟨b,g',rfl,hb,r0,r1,r2,r3,r4⟩:=Jbp HW.out hx;have gk:(k:Int)<(l.length:Int):=by omega
   have gl:(0:Int)<(l.length:Int):=by omega
   obtain⟨w8,hw8⟩:∃W,wr.alloc (.cells #[.int .i64 x,.int .i64 xa,.int .i64 xd,.bool o,.bool u] 58 (0,0))=W:=⟨_,rfl⟩;obtain⟨b8,q0,q1,q2,q3,q4,s8⟩:=Jlf hw8;obtain⟨b',f',e',hb',m0,m1,m2,m3,m4⟩:=Jbp (HW.out.below b8) hy;cases e'
   rw [Nat.zero_mul,Nat.add_zero] at m0 m1 m2 m3 m4;have hd:dpF l=yd:=dp_at hy;have ox:=HS.out.all hx;have oy:=HS.out.all hy;have B8:Hid (Below w.heap.size w w8):=HB.out.trans (b8.mono HB.out.size);have C1:=Lib.hid (Jik xa yd st z0 z1 ox.2.1 oy.2.2 w8);have C2:=Lib.hid (Jik xd yd st z0 z1 ox.2.2 oy.2.2 w8);rw [hd] at hall;clear b8 hb hb' HB HW ox oy;cases c1:inT yd st xa with
   | false =>
    rw [c1] at C1;have N:=Lib.hid (Jpf hx (by rw [hd];exact Jzv c1));clear hx hy hd hall c1;go_wp2_with fail
    refine C1.out.mono ?_;rintro e w' ⟨rfl,rfl⟩;go_wp2_with fail
    go_ret;exact⟨Jaa (by rw [←HR.out,N.out]),B8.out⟩
   | true =>
    rw [c1] at C1;cases c2:inT yd st xd with
    | false =>
     rw [c2] at C2;have N:=Lib.hid (Jpf hx (by rw [hd];exact Jzw c2));clear hx hy hd hall c1 c2;go_wp2_with fail
     refine C1.out.mono ?_;rintro e w' ⟨rfl,rfl⟩;go_wp2_with fail
     refine C2.out.mono ?_;rintro e w' ⟨rfl,rfl⟩;go_wp2_with fail
     go_ret;exact⟨Jaa (by rw [←HR.out,N.out]),B8.out⟩
    | true =>
     rw [c2] at C2;have N:Hid (∀(j:Nat) x,j<k+1→l[j]?=some x→fitX (dpF l) st x=true):=by
      intro j z hj hz;by_cases hjk:j<k
      ·rw [hd];exact hall.out j z hjk hz
      ·obtain rfl:j=k:=by omega
       rw [hx] at hz;obtain rfl:=Option.some.inj hz;rw [hd];exact Jzx c1 c2
     clear hx hy hd hall c1 c2;go_wp2_with fail
     refine C1.out.mono ?_;rintro e w' ⟨rfl,rfl⟩;go_wp2_with fail
     refine C2.out.mono ?_;rintro e w' ⟨rfl,rfl⟩;go_wp2_with fail
     go_roundw
     case rel=>exact⟨k+1,by go_num,by omega,N,B8⟩
     case measure=>simp [intOf];omega
  ·have N:=Lib.hid (Jzy (l:=l) ⟨z0,z1⟩ (fun j x hj=>hall.out j x (by have:=(List.getElem?_eq_some_iff.1 hj).1;omega) hj))
   have d:decide (k<l.length)=false:=by rw [decide_eq_false_iff_not];exact hlt
   clear hall hlt;go_wp2_with fail
   go_ret;exact⟨Jaa (by rw [←HR.out,N.out]),HB.out⟩
theorem int_cell {w:World} {A:Option Addr} {n c:Nat} {l:List Int} (h:LstI w (.slice A n c) l) {i:Nat} {x:Int} (hs:l[i]?=some x):∃b f,A=some ⟨b,f,none⟩∧b<w.heap.size∧w.cell? ⟨b,f+i,none⟩=some (.int .i64 x):=by
 obtain⟨A',c',hv,_,_,hx⟩:=h;cases hv
 have hi:=(List.getElem?_eq_some_iff.1 hs).1;obtain⟨b,f,rfl,hb,hcell⟩:=hx (by omega);exact⟨b,f,rfl,hb,hcell i _ (Jtm l i x hs)⟩
theorem Jz9 (v:Value) (l:List Cl) (hl:l.length≤1000000) (hs:OkS l) (u:Value) (ls:List Int) (hn:ls.length≤172800) (x y:Int) (hx:ls[0]?=some x) (hy:ls[ls.length - 1]?=some y) (w:World) (h:LstC w v l) (hu:LstI w u ls):Calls prog 264 #[v,u] w fun e w'=>e=.returned (.bool (fitC l x&&fitC l y))∧Below w.heap.size w w':=by
 have h0:=(List.getElem?_eq_some_iff.1 hx).1;obtain⟨A,c,rfl,-,-,-⟩:=id hu;obtain⟨b,f,rfl,hb,m0⟩:=int_cell hu hx;obtain⟨b',f',e',-,m1⟩:=int_cell hu hy;cases e'
 rw [Nat.add_zero] at m0;have C1:=Lib.hid (Jlj v l hl hs x w h);have C2:=Lib.hid (fun W (hb:Below w.heap.size w W)=>Jlj v l hl hs y W (h.below hb));obtain⟨n,hN⟩:∃n,ls.length=n:=⟨_,rfl⟩;rw [hN] at m1 h0 hn ⊢;obtain⟨k,hk⟩:∃k,n - 1=k:=⟨_,rfl⟩;rw [hk] at m1;have e1:(n:Int) - 1=(k:Int):=by omega
 have kle:k≤172800:=by omega
 have kn:(k:Int)<(n:Int):=by omega
 have gn:(0:Int)<(n:Int):=by omega
 have HB:=Lib.hid hb;obtain⟨A1,n1,rfl,-,-,-⟩:=h;clear hs hu hx hy hN hk hb;cases c1:fitC l x with
 | false =>
  rw [c1] at C1;clear c1;go_enter func264,ntmps264
  go_wp2_with fail
  refine C1.out.mono ?_;rintro e w1 ⟨rfl,b1⟩;go_wp2_with fail
  go_ret;exact⟨rfl,b1⟩
 | true =>
  rw [c1] at C1;clear c1;go_enter func264,ntmps264
  go_wp2_with fail
  refine C1.out.mono ?_;rintro e w1 ⟨rfl,b1⟩;have m2:=(b1.cell (p:=⟨b,f+k,none⟩) HB.out).trans m1;have B1:=Lib.hid b1;have C3:=Lib.hid (C2.out w1 b1);clear b1 C1 C2 m0 m1;go_wp2_with fail
  refine C3.out.mono ?_;rintro e w2 ⟨rfl,b2⟩;have B2:Hid (Below w.heap.size w w2):=B1.out.trans (b2.mono B1.out.size);clear b2;go_wp2_with fail
  go_ret;exact⟨rfl,B2.out⟩
theorem J0a (t a b v t' a' b' v':Int) (bk:Nat) (w:World) (h:w.heap[bk]?=some (boxF t a b v)):Calls prog 268 #[fqV t' a' b' v',.pointer (some ⟨bk,0,none⟩)] w fun e w'=>e=.returned (.bool (metF (t,a,b,v) (t',a',b',v')))∧Below w.heap.size w w':=by
 obtain⟨w7,hw7⟩:∃W,w.alloc (boxF t' a' b' v')=W:=⟨_,rfl⟩;obtain⟨b7,p0,p1,p2,p3,s7,c7⟩:=Jfb hw7;obtain⟨q0,q1,q2,q3⟩:=Jb4 ((b7.block bk (Array.getElem?_eq_some_iff.1 h).1).trans h);have B7:=Lib.hid b7;clear b7 s7 c7 h;by_cases ht:t=t'
 ·have g:=Jaq ht
  have R:=Lib.hid (Jzz (f:=(t,a,b,v)) (g:=(t',a',b',v')) ht);have C:=Lib.hid (Jz6 t a b v t' a' b' v' w7);clear ht;go_enter func268,ntmps268
  go_wp2_with fail
  refine C.out.mono ?_;rintro e w1 ⟨rfl,b1⟩;have B1:Hid (Below w.heap.size w w1):=B7.out.trans (b1.mono B7.out.size);clear b1 C;go_wp2_with fail
  go_ret;exact⟨Jaa R.out.symm,B1.out⟩
 ·have g:=Jac ht
  have R:=Lib.hid (Juw (f:=(t,a,b,v)) (g:=(t',a',b',v')) ht);clear ht;go_enter func268,ntmps268
  go_wp2_with fail
  go_ret;exact⟨Jaa R.out.symm,B7.out⟩
theorem Jpl {f:FuncId} {args:Array Value} {w W:World} {x:Ending} (h:Calls prog f args W fun e w'=>e=x∧Below W.heap.size W w') (hb:Below w.heap.size w W):Calls prog f args W fun e w'=>e=x∧Below w.heap.size w w' :=
 h.mono fun _ _ ⟨h1,h3⟩=>⟨h1,hb.trans (h3.mono hb.size)⟩
theorem J0b {f:FuncId} {args:Array Value} {w W:World} {l:List Int} (h:Calls prog f args W fun e w'=>∃u,e=.returned u∧OwnI w' W.heap.size u l∧Below W.heap.size W w') (hb:Below w.heap.size w W):Calls prog f args W fun e w'=>∃u,e=.returned u∧LstI w' u l∧Below w.heap.size w w' :=
 h.mono fun _ _ ⟨u,h1,h2,h3⟩=>⟨u,h1,OwnI.lst h2,hb.trans (h3.mono hb.size)⟩
theorem J0c (vl:Value) (l:List Fq) (hl:l.length≤5000) (vt:Value) (ts:List Tp) (hts:∀x∈ts,(clT x).length≤1000000) (i:Nat) (t a b v:Int) (hf:l[i]?=some (t,a,b,v)) (w:World) (h:LstF w vl l) (ht:Jeb w vt ts) :
  Calls prog 196 #[vl,.int .i64 (i:Int),vt] w fun e w'=>e=.returned (.int .i64 (badF (ts.map clT) (l.take i) (t,a,b,v)))∧Below w.heap.size w w':=by
 have hi:=(List.getElem?_eq_some_iff.1 hf).1;obtain⟨A,n,rfl,-,-,-⟩:=id h;obtain⟨⟨D,m,rfl,-,-,-⟩,-⟩:=id ht;obtain⟨p,o,rfl,hp,m0,m1,m2,m3⟩:=four_at h hf;obtain⟨w7,hw7⟩:∃W,w.alloc (boxF t a b v)=W:=⟨_,rfl⟩;obtain⟨b7,p0,p1,p2,p3,s7,c7⟩:=Jfb hw7;have B7:=Lib.hid b7;have C7:=Lib.hid c7;have S7:=Lib.hid s7;have H:=Lib.hid (h.below b7);have HT:=Lib.hid (ht.below b7);have TL:Hid ((ts.map clT).length=ts.length):=List.length_map _;have gi:(i:Int)<(l.length:Int):=by omega
 have HF:=Lib.hid hf;clear b7 c7 s7 h ht hp hf;by_cases n0:t<0
 ·have R:=Lib.hid (Jpg (ts:=ts.map clT) (seen:=l.take i) (f:=(t,a,b,v)) (.inl n0))
  clear hts hl hi;go_enter func196,ntmps196
  go_wp2_with fail
  go_ret;exact⟨Jad R.out.symm,B7.out⟩
 have g0:decide (t<0)=false:=decide_eq_false n0;by_cases n1:(ts.length:Int)≤t
 ·have R:=Lib.hid (Jpg (ts:=ts.map clT) (seen:=l.take i) (f:=(t,a,b,v)) (.inr (by rw [TL.out];exact n1)))
  clear hts hl hi;go_enter func196,ntmps196
  go_wp2_with fail
  go_ret;exact⟨Jad R.out.symm,B7.out⟩
 have n2:¬((ts.map clT).length:Int)≤t:=by rw [TL.out];exact n1
 obtain⟨N,rfl⟩:∃N:Nat,t=(N:Int):=⟨t.toNat,by omega⟩;have g1:decide ((ts.length:Int)≤(N:Int))=false:=decide_eq_false n1;have g1':decide (ts.length≤N)=false:=decide_eq_false (by omega);have K1:=Lib.hid (fun W (hW:Below w7.heap.size w7 W)=>Jpl (Jjl (N:Int) a b v W) hW);cases h3:sndF ((N:Int),a,b,v) with
 | false =>
  have R:=Lib.hid (Jro (ts:=ts.map clT) (seen:=l.take i) n0 n2 h3);have D1:=Lib.hid (fun d os=>Calls.regrown_of (w:=w7) (d:=d) (os:=os) (Jjl (N:Int) a b v _));rw [h3] at D1;have Q0:=fun d os=>cell_regrown p0 d os
  have Q1:=fun d os=>cell_regrown p1 d os
  have Q2:=fun d os=>cell_regrown p2 d os
  have Q3:=fun d os=>cell_regrown p3 d os
  clear hts hl hi h3 n0 n1 n2 K1;go_enter func196,ntmps196
  go_wp2_with fail
  refine wp_region_quiet_below (by kernel_rfl) (by kernel_rfl) ?_;repeat (go_big_quiet_step (first | with_reducible exact D1.out _ _))
  refine wpQuiet_nil ?_;intro w1 hw1;have B1:Hid (Below w.heap.size w w1):=by
   obtain⟨p,rfl⟩:=hw1;exact B7.out.trans ((below_regrown w7 p.d p.os).mono B7.out.size)
  clear hw1 D1 Q0 Q1 Q2 Q3;go_wp2_with fail
  go_ret;exact⟨Jad R.out.symm,B1.out⟩
 | true =>
  rw [h3] at K1;obtain⟨⟨id,rr,kk,ff,cv,cl⟩,hx⟩:=Jao (show N<ts.length by omega);obtain⟨nm,hnm⟩:∃nm,str id=nm:=⟨_,rfl⟩;obtain⟨bt,ot,BB,mm,rfl,rfl,hbt,r0,r1,r2,r3,r4,lc,-,oc⟩:=Jb8 HT.out hx hnm;have hcl:cl.length≤1000000:=hts _ (List.mem_iff_getElem?.2 ⟨N,hx⟩);have HC:clsF (ts.map clT) ((N:Int),a,b,v)=cl:=J9a (n:=N) rfl (by rw [List.getElem?_map,hx];rfl);have K2:=Lib.hid (fun W (hW:Below w7.heap.size w7 W)=>J0b (Jnf (N:Int) a b v W) hW);rw [Jm9 h3] at K2;have LL:=Jjj ((N:Int),a,b,v);have LE:=Jus h3;have F1:=Jz0 h3;have F2:=J89 h3;have K3:=Lib.hid (fun W (hW:Below w7.heap.size w7 W) u (hu:LstI W u (lstF ((N:Int),a,b,v)))=>Jpl (Jz9 (.slice BB cl.length mm) cl hcl oc u (lstF ((N:Int),a,b,v)) (by omega) a (endF ((N:Int),a,b,v)) F1 F2 W (lc.below hW) hu) hW);have gN:(N:Int)<(ts.length:Int):=by omega
  have HBT:=Lib.hid hbt;have R4:=Lib.hid r4;have e0:(fitC cl a&&fitC cl (endF ((N:Int),a,b,v)))=allF (clsF (ts.map clT) ((N:Int),a,b,v)) ((N:Int),a,b,v):=by rw [HC];rfl
  rw [e0] at K3;clear LL LE F1 F2 hx hnm lc oc hcl HC hts e0 hbt;generalize lstF ((N:Int),a,b,v)=ls at K2 K3;cases h4:allF (clsF (ts.map clT) ((N:Int),a,b,v)) ((N:Int),a,b,v) with
  | false =>
   have R:=Lib.hid (Jux (ts:=ts.map clT) (seen:=l.take i) n0 n2 h4);rw [h4] at K3;clear hl hi h3 h4 n0 n1 n2;go_enter func196,ntmps196
   go_wp2_with fail
   go_region_held3 (fun W=>W.cell? ⟨w.heap.size,0,none⟩=some (.int .i64 (N:Int))∧W.cell? ⟨w.heap.size,1,none⟩=some (.int .i64 a)∧W.cell? ⟨w.heap.size,2,none⟩=some (.int .i64 b)∧W.cell? ⟨w.heap.size,3,none⟩=some (.int .i64 v)∧W.cell? ⟨bt,ot+N*5+4,none⟩=some (.slice BB cl.length mm)) (first | assumption | (exact⟨by assumption,by assumption,by assumption,by assumption,by assumption⟩)) (first
    | (go_at_call 263;with_reducible refine (K1.out _ (by first | exact Below.refl _ _ | exact (Below.refl _ _).drew)).mono ?_;rintro e w1 ⟨rfl,b1⟩;obtain⟨y0,y1,y2,y3⟩:=Jb4 ((b1.block _ S7.out).trans C7.out);have y4:=(b1.cell (p:=⟨bt,ot+N*5+4,none⟩) HBT.out).trans R4.out)
    | (go_at_call 265;with_reducible refine (K2.out _ b1).mono ?_;rintro e w2 ⟨u2,rfl,l2,b2⟩;obtain⟨x0,x1,x2,x3⟩:=Jb4 ((b2.block _ S7.out).trans C7.out);have x4:=(b2.cell (p:=⟨bt,ot+N*5+4,none⟩) HBT.out).trans R4.out;have L2:=Lib.hid l2;clear l2)
    | (go_at_call 264;with_reducible refine (K3.out _ b2 _ L2.out).mono ?_;rintro e w3 ⟨rfl,b3⟩;obtain⟨z0,z1,z2,z3⟩:=Jb4 ((b3.block _ S7.out).trans C7.out);have z4:=(b3.cell (p:=⟨bt,ot+N*5+4,none⟩) HBT.out).trans R4.out))
   all_goals
    have B3:Hid (Below w.heap.size w w3):=B7.out.trans (b3.mono B7.out.size);clear b1 b2 b3 K1 K2 K3;go_wp2_with fail
    go_ret;exact⟨Jad R.out.symm,B3.out⟩
  | true =>
   rw [h4] at K3;have TK:=Jb0 l i _ HF.out;obtain⟨u6,hu6,l6⟩:=Jph H.out (i+1) (by omega) (by omega) ((i:Int)+1) (by omega);obtain⟨u8,hu8,l8⟩:=Jph H.out i (by omega) (by omega) (i:Int) rfl;have C6:=Lib.hid (fun W (hW:Below w7.heap.size w7 W)=>Ju7 u6 (l.take (i+1)) (by rw [List.length_take];omega) (N:Int) W (l6.below hW));have C8:=Lib.hid (fun W (hW:Below w7.heap.size w7 W)=>Jlh 268 (.pointer (some ⟨w.heap.size,0,none⟩)) (metF ((N:Int),a,b,v)) (Jbv func268 (by kernel_rfl) (by kernel_rfl)) u8 (l.take i) (by rw [List.length_take];omega) W (l8.below hW)
    (fun k t' a' b' v' _ W' hW'=>J0a (N:Int) a b v t' a' b' v' w.heap.size W' ((hW'.block _ (Nat.lt_of_lt_of_le S7.out hW.size)).trans ((hW.block _ S7.out).trans C7.out))))
   have wi:IntKind.i64.wrap ((i:Int)+1)=(i:Int)+1:=IntWalk.i64_in _ (by omega);have E0:=Lib.hid (show (insF (N:Int) (l.take i++[((N:Int),a,b,v)])).length=(srtI (insF (N:Int) (l.take (i+1)))).length by rw [Jg1,TK]);clear l6 l8 TK;by_cases h5:256<(insF (N:Int) (l.take i++[((N:Int),a,b,v)])).length
   ·have R:=Lib.hid (Juy (ts:=ts.map clT) (seen:=l.take i) n0 n2 h3 h4 h5)
    rw [E0.out] at h5;have g5:(256:Int)<((srtI (insF (N:Int) (l.take (i+1)))).length:Int):=by omega
    clear hl hi h3 h4 n0 n1 n2 h5;go_enter func196,ntmps196
    go_wp2_with fail
    go_region_held3 (fun W=>W.cell? ⟨w.heap.size,0,none⟩=some (.int .i64 (N:Int))∧W.cell? ⟨w.heap.size,1,none⟩=some (.int .i64 a)∧W.cell? ⟨w.heap.size,2,none⟩=some (.int .i64 b)∧W.cell? ⟨w.heap.size,3,none⟩=some (.int .i64 v)∧W.cell? ⟨bt,ot+N*5+4,none⟩=some (.slice BB cl.length mm)) (first | assumption | (exact⟨by assumption,by assumption,by assumption,by assumption,by assumption⟩)) (first
     | (go_at_call 263;with_reducible refine (K1.out _ (by first | exact Below.refl _ _ | exact (Below.refl _ _).drew)).mono ?_;rintro e w1 ⟨rfl,b1⟩;obtain⟨y0,y1,y2,y3⟩:=Jb4 ((b1.block _ S7.out).trans C7.out);have y4:=(b1.cell (p:=⟨bt,ot+N*5+4,none⟩) HBT.out).trans R4.out)
     | (go_at_call 265;with_reducible refine (K2.out _ b1).mono ?_;rintro e w2 ⟨u2,rfl,l2,b2⟩;obtain⟨x0,x1,x2,x3⟩:=Jb4 ((b2.block _ S7.out).trans C7.out);have x4:=(b2.cell (p:=⟨bt,ot+N*5+4,none⟩) HBT.out).trans R4.out;have L2:=Lib.hid l2;clear l2)
     | (go_at_call 264;with_reducible refine (K3.out _ b2 _ L2.out).mono ?_;rintro e w3 ⟨rfl,b3⟩;obtain⟨z0,z1,z2,z3⟩:=Jb4 ((b3.block _ S7.out).trans C7.out);have z4:=(b3.cell (p:=⟨bt,ot+N*5+4,none⟩) HBT.out).trans R4.out))
    all_goals
     have B3:Hid (Below w.heap.size w w3):=B7.out.trans (b3.mono B7.out.size);have BB3:=Lib.hid b3;clear b1 b2 b3 K1 K2 K3 x0 x1 x2 x3 x4 y0 y1 y2 y3 y4 p0 p1 p2 p3 hw7;go_wp2_with fail
     go_still_tail 6,(by kernel_rfl)
     change wpList _ _ _ _ _ w3.drew;go_wp2_with fail
     refine (C6.out _ BB3.out.drew).mono ?_;rintro e w4 ⟨u4,rfl,l4,b4⟩;have b4':Below w3.heap.size w3 w4:=(Below.refl _ w3).drew.trans b4;have B4:Hid (Below w.heap.size w w4):=B3.out.trans (b4'.mono B3.out.size);have BB4:Hid (Below w7.heap.size w7 w4):=BB3.out.trans (b4'.mono BB3.out.size);obtain⟨A4,c4,rfl,-⟩:=l4;clear b4 b4' C6 C8 z0 z1 z2 z3 z4;go_wp2_with fail
     go_ret;exact⟨Jad R.out.symm,B4.out⟩
   have h5':=h5;rw [E0.out] at h5';have g5:decide ((256:Int)<((srtI (insF (N:Int) (l.take (i+1)))).length:Int))=false:=decide_eq_false (by omega);have g5':decide (256<(srtI (insF (N:Int) (l.take (i+1)))).length)=false:=decide_eq_false h5';clear h5';cases h6:hitF (l.take i) ((N:Int),a,b,v) with
   | true =>
    have R:=Lib.hid (Jz1 (ts:=ts.map clT) (seen:=l.take i) n0 n2 h3 h4 h5 h6);rw [show (l.take i).any (metF ((N:Int),a,b,v))=true from h6] at C8;clear hl hi h3 h4 n0 n1 n2 h5 h6;go_enter func196,ntmps196
    go_wp2_with fail
    go_region_held3 (fun W=>W.cell? ⟨w.heap.size,0,none⟩=some (.int .i64 (N:Int))∧W.cell? ⟨w.heap.size,1,none⟩=some (.int .i64 a)∧W.cell? ⟨w.heap.size,2,none⟩=some (.int .i64 b)∧W.cell? ⟨w.heap.size,3,none⟩=some (.int .i64 v)∧W.cell? ⟨bt,ot+N*5+4,none⟩=some (.slice BB cl.length mm)) (first | assumption | (exact⟨by assumption,by assumption,by assumption,by assumption,by assumption⟩)) (first
     | (go_at_call 263;with_reducible refine (K1.out _ (by first | exact Below.refl _ _ | exact (Below.refl _ _).drew)).mono ?_;rintro e w1 ⟨rfl,b1⟩;obtain⟨y0,y1,y2,y3⟩:=Jb4 ((b1.block _ S7.out).trans C7.out);have y4:=(b1.cell (p:=⟨bt,ot+N*5+4,none⟩) HBT.out).trans R4.out)
     | (go_at_call 265;with_reducible refine (K2.out _ b1).mono ?_;rintro e w2 ⟨u2,rfl,l2,b2⟩;obtain⟨x0,x1,x2,x3⟩:=Jb4 ((b2.block _ S7.out).trans C7.out);have x4:=(b2.cell (p:=⟨bt,ot+N*5+4,none⟩) HBT.out).trans R4.out;have L2:=Lib.hid l2;clear l2)
     | (go_at_call 264;with_reducible refine (K3.out _ b2 _ L2.out).mono ?_;rintro e w3 ⟨rfl,b3⟩;obtain⟨z0,z1,z2,z3⟩:=Jb4 ((b3.block _ S7.out).trans C7.out);have z4:=(b3.cell (p:=⟨bt,ot+N*5+4,none⟩) HBT.out).trans R4.out))
    all_goals
     have B3:Hid (Below w.heap.size w w3):=B7.out.trans (b3.mono B7.out.size);have BB3:=Lib.hid b3;clear b1 b2 b3 K1 K2 K3 x0 x1 x2 x3 x4 y0 y1 y2 y3 y4 p0 p1 p2 p3 hw7;go_wp2_with fail
     go_still_tail 6,(by kernel_rfl)
     change wpList _ _ _ _ _ w3.drew;go_wp2_with fail
     refine (C6.out _ BB3.out.drew).mono ?_;rintro e w4 ⟨u4,rfl,l4,b4⟩;have b4':Below w3.heap.size w3 w4:=(Below.refl _ w3).drew.trans b4;have B4:Hid (Below w.heap.size w w4):=B3.out.trans (b4'.mono B3.out.size);have BB4:Hid (Below w7.heap.size w7 w4):=BB3.out.trans (b4'.mono BB3.out.size);obtain⟨A4,c4,rfl,-⟩:=l4;clear b4 b4' C6 z0 z1 z2 z3 z4;go_wp2_with fail
     refine (C8.out _ BB4.out).mono ?_;rintro e w5 ⟨rfl,b5⟩;have B5:Hid (Below w.heap.size w w5):=B4.out.trans (b5.mono B4.out.size);clear b5 C8;go_wp2_with fail
     go_ret;exact⟨Jad R.out.symm,B5.out⟩
   | false =>
    have R:=Lib.hid (Juz (ts:=ts.map clT) (seen:=l.take i) n0 n2 h3 h4 h5 h6);rw [show (l.take i).any (metF ((N:Int),a,b,v))=false from h6] at C8;clear hl hi h3 h4 n0 n1 n2 h5 h6;go_enter func196,ntmps196
    go_wp2_with fail
    go_region_held3 (fun W=>W.cell? ⟨w.heap.size,0,none⟩=some (.int .i64 (N:Int))∧W.cell? ⟨w.heap.size,1,none⟩=some (.int .i64 a)∧W.cell? ⟨w.heap.size,2,none⟩=some (.int .i64 b)∧W.cell? ⟨w.heap.size,3,none⟩=some (.int .i64 v)∧W.cell? ⟨bt,ot+N*5+4,none⟩=some (.slice BB cl.length mm)) (first | assumption | (exact⟨by assumption,by assumption,by assumption,by assumption,by assumption⟩)) (first
     | (go_at_call 263;with_reducible refine (K1.out _ (by first | exact Below.refl _ _ | exact (Below.refl _ _).drew)).mono ?_;rintro e w1 ⟨rfl,b1⟩;obtain⟨y0,y1,y2,y3⟩:=Jb4 ((b1.block _ S7.out).trans C7.out);have y4:=(b1.cell (p:=⟨bt,ot+N*5+4,none⟩) HBT.out).trans R4.out)
     | (go_at_call 265;with_reducible refine (K2.out _ b1).mono ?_;rintro e w2 ⟨u2,rfl,l2,b2⟩;obtain⟨x0,x1,x2,x3⟩:=Jb4 ((b2.block _ S7.out).trans C7.out);have x4:=(b2.cell (p:=⟨bt,ot+N*5+4,none⟩) HBT.out).trans R4.out;have L2:=Lib.hid l2;clear l2)
     | (go_at_call 264;with_reducible refine (K3.out _ b2 _ L2.out).mono ?_;rintro e w3 ⟨rfl,b3⟩;obtain⟨z0,z1,z2,z3⟩:=Jb4 ((b3.block _ S7.out).trans C7.out);have z4:=(b3.cell (p:=⟨bt,ot+N*5+4,none⟩) HBT.out).trans R4.out))
    all_goals
     have B3:Hid (Below w.heap.size w w3):=B7.out.trans (b3.mono B7.out.size);have BB3:=Lib.hid b3;clear b1 b2 b3 K1 K2 K3 x0 x1 x2 x3 x4 y0 y1 y2 y3 y4 p0 p1 p2 p3 hw7;go_wp2_with fail
     go_still_tail 6,(by kernel_rfl)
     change wpList _ _ _ _ _ w3.drew;go_wp2_with fail
     refine (C6.out _ BB3.out.drew).mono ?_;rintro e w4 ⟨u4,rfl,l4,b4⟩;have b4':Below w3.heap.size w3 w4:=(Below.refl _ w3).drew.trans b4;have B4:Hid (Below w.heap.size w w4):=B3.out.trans (b4'.mono B3.out.size);have BB4:Hid (Below w7.heap.size w7 w4):=BB3.out.trans (b4'.mono BB3.out.size);obtain⟨A4,c4,rfl,-⟩:=l4;clear b4 b4' C6 z0 z1 z2 z3 z4;go_wp2_with fail
     refine (C8.out _ BB4.out).mono ?_;rintro e w5 ⟨rfl,b5⟩;have B5:Hid (Below w.heap.size w w5):=B4.out.trans (b5.mono B4.out.size);clear b5 C8;go_wp2_with fail
     go_ret;exact⟨Jad R.out.symm,B5.out⟩
theorem kchk_any (vl:Value) (l:List Fq) (hl:l.length≤5000) (vt:Value) (ts:List Tp) (hts:∀x∈ts,(clT x).length≤1000000) (w:World) (h:LstF w vl l) (ht:Jeb w vt ts) :
  Calls prog 107 #[vl,vt] w fun e w'=>e=.returned (.tuple #[.int .i64 ((chkF (ts.map clT) l).1),.int .i64 ((chkF (ts.map clT) l).2)])∧Below w.heap.size w w':=by
 have H:=Lib.hid h;have HT:=Lib.hid ht;obtain⟨A,n,rfl,-,-,-⟩:=h;obtain⟨⟨D,m,rfl,-,-,-⟩,-⟩:=ht;obtain⟨q,hq⟩:∃q,chkF (ts.map clT) l=q:=⟨_,rfl⟩;rw [hq];by_cases h0:64<l.length
 ·have E:Hid (q=(0,5)):=by rw [←hq];exact Ju1 h0
  have g:(64:Int)<(l.length:Int):=by omega
  clear hq hts hl h0;go_enter func107,ntmps107
  go_wp2_with fail
  go_ret2;exact⟨ret_chk (by rw [E.out]) (by rw [E.out]),Below.refl _ _⟩
 have ST:Hid (q=fbF (badF (ts.map clT)) (fun f=>f) ((l.take 0).map fun f=>f) 0 (l.drop 0)):=by rw [←hq];exact Jrp h0
 have g:decide ((64:Int)<(l.length:Int))=false:=decide_eq_false (by omega);have g':decide (64<l.length)=false:=decide_eq_false h0;have C:=Lib.hid (fun W (hW:Below w.heap.size w W) i t a b v hf=>J0c (.slice A l.length n) l hl (.slice D ts.length m) ts hts i t a b v hf W (H.out.below hW) (HT.out.below hW));clear hq hts h0;go_enter func107,ntmps107
 go_wp2_with fail
 go_loopw [13] (fun i wr=>∃k:Nat,i=.int .i64 k∧k≤l.length∧Hid (q=fbF (badF (ts.map clT)) (fun f=>f) ((l.take k).map fun f=>f) k (l.drop k))∧Hid (Below w.heap.size w wr)) (fun i _=>l.length - (intOf i).toNat)
 case atStart=>exact⟨0,rfl,Nat.zero_le _,ST,Lib.hid (Below.refl _ _)⟩
 case round =>
  clear ST g g';obtain⟨k,rfl,hk,hz,HB⟩:=hrel;by_cases hlt:k<l.length
  ·obtain⟨⟨t,a,b,v⟩,hf⟩:=Jao hlt
   have gk:(k:Int)<(l.length:Int):=by omega
   have C1:=Lib.hid (C.out wr HB.out k t a b v hf);by_cases he:badF (ts.map clT) (l.take k) (t,a,b,v)=0
   ·have N:=Lib.hid (Jz3 hz.out hf he)
    rw [he] at C1;clear hz hf he;go_wp2_with fail
    refine C1.out.mono ?_;rintro e w1 ⟨rfl,b1⟩;have B1:Hid (Below w.heap.size w w1):=HB.out.trans (b1.mono HB.out.size);clear b1 C1;go_wp2_with fail
    go_roundw
    case rel=>exact⟨k+1,by go_num,by omega,N,B1⟩
    case measure=>simp [intOf];omega
   ·have R:=Lib.hid (Jz2 hz.out hf rfl he)
    generalize badF (ts.map clT) (l.take k) (t,a,b,v)=z at C1 he R;have t1:=Jae he;clear hz hf he hlt;go_wp2_with fail
    refine C1.out.mono ?_;rintro e w1 ⟨rfl,b1⟩;have B1:Hid (Below w.heap.size w w1):=HB.out.trans (b1.mono HB.out.size);clear b1 C1;go_wp2_with fail
    go_ret2;exact⟨ret_chk (by rw [R.out]) (by rw [R.out]),B1.out⟩
  ·have R:=Lib.hid (Jz4 hz.out (by omega))
   have d:decide (k<l.length)=false:=by rw [decide_eq_false_iff_not];exact hlt
   clear hz hlt;go_wp2_with fail
   go_ret2;exact⟨ret_chk (by rw [R.out]) (by rw [R.out]),HB.out⟩
end S18
end Go.Proofs.YtpifdbphmnifdaaGreatDoor
