/-
  Facts of the proof. Condition: each theorem's own.
-/
import Derived.Test.YtpifdbphmnifdaaGreatDoorYI25
set_option maxRecDepth 100000
set_option maxHeartbeats 8000000
open Go.Proofs.Tryz
namespace Go.Proofs.YtpifdbphmnifdaaGreatDoor
section
open Go.RowKit
def wkF (k:Nat→Bool) (j:Nat):Array Value:=((List.range 7).map fun i=>if i<j then Value.int .u8 (if k i then 49 else 48) else .int .u8 0).toArray
theorem Jqw (k:Nat→Bool) (j:Nat) (hj:j<7) (d:Int) (hd:d=if k j then 49 else 48):(wkF k j).setIfInBounds j (.int .u8 d)=wkF k (j+1):=by
 subst hd;match j,hj with
 | 0,_ | 1,_ | 2,_ | 3,_ | 4,_ | 5,_ | 6,_=>rfl
theorem Qb1 (k:Nat→Bool) (j:Nat) (hj:j<7):(wkF k j)[j]?=some (.int .u8 0):=by
 match j,hj with
 | 0,_ | 1,_ | 2,_ | 3,_ | 4,_ | 5,_ | 6,_=>rfl
abbrev wkA (k:Nat→Bool):Array Value:=#[.bool (k 0),.bool (k 1),.bool (k 2),.bool (k 3),.bool (k 4),.bool (k 5),.bool (k 6)]
theorem Qb2 (k:Nat→Bool) (j:Nat) (hj:j<7):(wkA k)[j]?=some (.bool (k j)):=by
 match j,hj with
 | 0,_ | 1,_ | 2,_ | 3,_ | 4,_ | 5,_ | 6,_=>rfl
theorem J8h (k:Nat→Bool) (j:Nat) (hj:j<7) (W:World):(Instr.index 59 (.agg (wkA k)) (.int .i64 (j:Int))).run prog W=.ok (.bool (k j)) W:=by
 have hT:=underlying59;have h:=Qb2 k j hj;have hn:(0:Int)≤(j:Int)∧(j:Int)<7:=by omega
 generalize wkA k=c at h;simp [Instr.index,run_underlying hT,asIntOf,hn,h,go_sem];try (intro q;omega)
theorem J8i (B k:Nat) (hk:k<7) (W:World):(Instr.indexAt 228 (.pointer (some ⟨B,0,none⟩)) (.int .i64 (k:Int))).run prog W=.ok (.pointer (some ⟨B,k,none⟩)) W:=by
 have hT:=underlying228;have he:prog.elem 228=5:=by simp [Program.elem,hT]
 have hl:prog.arrayLen 228=7:=by simp [Program.arrayLen,hT]
 rw [run_indexAt_array W 228 _ _ _ (by rw [he,hl];exact hT),hl,he,if_pos (by omega)];simp [sizeOf5,Addr.add];try exact fun h=>h.symm
theorem Jyq (k:Nat→Bool) (w:World):Calls prog 138 #[.agg (wkA k)] w fun e w'=>e=.returned (.string (str (wkT k)))∧Below w.heap.size w w':=by
 have H0:(w.alloc (.cells (wkA k) 59 (0,0))).heap[w.heap.size]?=some (.cells (wkA k) 59 (0,0)):=heap_alloc_new w _;obtain⟨w1,h1⟩:∃X,w.alloc (.cells (wkA k) 59 (0,0))=X:=⟨_,rfl⟩;rw [h1] at H0;have hs1:w1.heap.size=w.heap.size+1:=by rw [←h1];simp
 have b1:Below w.heap.size w w1:=by rw [←h1];exact (Below.refl _ _).alloc (Nat.le_refl _) _
 obtain⟨w2,h2⟩:∃X,w1.alloc (.cells #[.int .u8 0,.int .u8 0,.int .u8 0,.int .u8 0,.int .u8 0,.int .u8 0,.int .u8 0] 228 (0,0))=X:=⟨_,rfl⟩;have b2:Below w.heap.size w w2:=by rw [←h2];exact b1.alloc (by omega) _
 have H1:w2.heap[w1.heap.size]?=some (.cells (wkF k 0) 228 (0,0)):=by rw [←h2];exact heap_alloc_new w1 _
 have H2:w2.heap[w.heap.size]?=some (.cells (wkA k) 59 (0,0)):=by rw [←h2];exact Jh6 _ _ H0
 rw [hs1] at H1;have c0:w2.cell? ⟨w.heap.size,0,none⟩=some (.bool (k 0)):=by rw [cell_of_row _ _ _ _ _ _ H2];rfl
 have c1:w2.cell? ⟨w.heap.size,1,none⟩=some (.bool (k 1)):=by rw [cell_of_row _ _ _ _ _ _ H2];rfl
 have c2:w2.cell? ⟨w.heap.size,2,none⟩=some (.bool (k 2)):=by rw [cell_of_row _ _ _ _ _ _ H2];rfl
 have c3:w2.cell? ⟨w.heap.size,3,none⟩=some (.bool (k 3)):=by rw [cell_of_row _ _ _ _ _ _ H2];rfl
 have c4:w2.cell? ⟨w.heap.size,4,none⟩=some (.bool (k 4)):=by rw [cell_of_row _ _ _ _ _ _ H2];rfl
 have c5:w2.cell? ⟨w.heap.size,5,none⟩=some (.bool (k 5)):=by rw [cell_of_row _ _ _ _ _ _ H2];rfl
 have c6:w2.cell? ⟨w.heap.size,6,none⟩=some (.bool (k 6)):=by rw [cell_of_row _ _ _ _ _ _ H2];rfl
 have I0:Hid (w2.heap[w.heap.size+1]?=some (.cells (wkF k 0) 228 (0,0))∧Below w.heap.size w w2):=Lib.hid ⟨H1,b2⟩;clear H1 H2 b2 b1 H0;go_enter func138,ntmps138
 go_wp2_with fail
 clear c0 c1 c2 c3 c4 c5 c6 h1 h2 hs1;go_loopw [7] (fun i wr=>∃j:Nat,i=.int .i64 j∧j≤7∧Hid (wr.heap[w.heap.size+1]?=some (.cells (wkF k j) 228 (0,0))∧Below w.heap.size w wr)) (fun i _=>7 - (intOf i).toNat)
 case atStart=>exact⟨0,rfl,Nat.zero_le _,I0⟩
 case round =>
  obtain⟨j,rfl,hj,HK⟩:=hrel;by_cases hlt:j<7
  ·have gk:(j:Int)<7:=by omega
   have ia:=fun X=>J8h k j hlt X
   have ix:=fun X=>J8i (w.heap.size+1) j hlt X
   have m0:wr.cell? ⟨w.heap.size+1,j,none⟩=some (.int .u8 0):=by rw [cell_of_row _ _ _ _ _ _ HK.out.1];exact Qb1 k j hlt
   have f0:=frozen_of_row wr (w.heap.size+1) j _ _ HK.out.1;have st:∀d,d=(if k j then 49 else 48:Int)→Hid ((wr.setCell ⟨w.heap.size+1,j,none⟩ (.int .u8 d)).heap[w.heap.size+1]?=some (.cells (wkF k (j+1)) 228 (0,0))∧Below w.heap.size w (wr.setCell ⟨w.heap.size+1,j,none⟩ (.int .u8 d))):=fun d hd=>Lib.hid ⟨by rw [heap_setCell_same _ _ _ _ _ _ HK.out.1,Jqw k j hlt d hd],Jby HK.out.2 (Jbi wr _ _ _) (fun q e=>by cases e;omega)⟩
   have st2:Hid ((((wr.setCell ⟨w.heap.size+1,j,none⟩ (.int .u8 48)).setCell ⟨w.heap.size+1,j,none⟩ (.int .u8 49))).heap[w.heap.size+1]?=some (.cells ((wkF k j).setIfInBounds j (.int .u8 49)) 228 (0,0))∧Below w.heap.size w ((wr.setCell ⟨w.heap.size+1,j,none⟩ (.int .u8 48)).setCell ⟨w.heap.size+1,j,none⟩ (.int .u8 49))):=Lib.hid ⟨by
    rw [heap_setCell_same _ _ _ _ _ _ (heap_setCell_same _ _ _ _ _ _ HK.out.1)];congr 2
    simp [Array.setIfInBounds_setIfInBounds],Jby (Jby HK.out.2 (Jbi wr _ _ _) (fun q e=>by cases e;omega)) (Jbi _ _ _ _) (fun q e=>by cases e;omega)⟩
   cases hk:k j with
   | true =>
    rw [hk] at ia;have K2:Hid ((((wr.setCell ⟨w.heap.size+1,j,none⟩ (.int .u8 48)).setCell ⟨w.heap.size+1,j,none⟩ (.int .u8 49))).heap[w.heap.size+1]?=some (.cells (wkF k (j+1)) 228 (0,0))∧Below w.heap.size w ((wr.setCell ⟨w.heap.size+1,j,none⟩ (.int .u8 48)).setCell ⟨w.heap.size+1,j,none⟩ (.int .u8 49))):=Lib.hid (by
     have:=st2.out;rwa [Jqw k j hlt 49 (by rw [hk];rfl)] at this)
    clear st st2 HK I0 hk;go_wp2_with fail
    go_roundw
    case rel=>exact⟨j+1,by go_num,by omega,K2⟩
    case measure=>simp [intOf];omega
   | false =>
    rw [hk] at ia;have K2:=st 48 (by rw [hk];rfl);clear st st2 HK I0 hk;go_wp2_with fail
    go_roundw
    case rel=>exact⟨j+1,by go_num,by omega,K2⟩
    case measure=>simp [intOf];omega
  ·obtain rfl:j=7:=by omega
   have d:decide (((7:Nat):Int)<7)=false:=rfl;have CV:(convert 155 9 (.slice (some ⟨w.heap.size+1,0,none⟩) 7 7)).run prog wr=.ok (.string (str (wkT k))) wr:=by
    refine run_convert_bytes_back wr 155 9 5 ⟨w.heap.size+1,0,none⟩ 7 (wkT k) underlying155 underlying5 underlying9 (fun j hj=>?_);have hj:j<7:=hj;have hadd:(⟨w.heap.size+1,0,none⟩:Addr).add j=⟨w.heap.size+1,j,none⟩:=by unfold Addr.add;split <;> simp_all
    rw [hadd,cell_of_row _ _ _ _ _ _ HK.out.1];match j,hj with
    | 0,_=>show some (Value.int .u8 (if k 0 then 49 else 48))=some (.int .u8 (((if k 0 then 49 else 48:UInt8).toNat:Int)));cases k 0 <;> rfl
    | 1,_=>show some (Value.int .u8 (if k 1 then 49 else 48))=some (.int .u8 (((if k 1 then 49 else 48:UInt8).toNat:Int)));cases k 1 <;> rfl
    | 2,_=>show some (Value.int .u8 (if k 2 then 49 else 48))=some (.int .u8 (((if k 2 then 49 else 48:UInt8).toNat:Int)));cases k 2 <;> rfl
    | 3,_=>show some (Value.int .u8 (if k 3 then 49 else 48))=some (.int .u8 (((if k 3 then 49 else 48:UInt8).toNat:Int)));cases k 3 <;> rfl
    | 4,_=>show some (Value.int .u8 (if k 4 then 49 else 48))=some (.int .u8 (((if k 4 then 49 else 48:UInt8).toNat:Int)));cases k 4 <;> rfl
    | 5,_=>show some (Value.int .u8 (if k 5 then 49 else 48))=some (.int .u8 (((if k 5 then 49 else 48:UInt8).toNat:Int)));cases k 5 <;> rfl
    | 6,_=>show some (Value.int .u8 (if k 6 then 49 else 48))=some (.int .u8 (((if k 6 then 49 else 48:UInt8).toNat:Int)));cases k 6 <;> rfl
   have B:=Lib.hid HK.out.2;clear HK I0;obtain⟨s,hs⟩:∃s,str (wkT k)=s:=⟨_,rfl⟩;rw [hs] at CV;have HS:=Lib.hid hs;clear hs;go_wp2_with fail
   go_ret;exact⟨by cases HS.out;rfl,B.out⟩
theorem Jfw {w:World} {b:Nat} {a:Nat→Option Addr} {c:Nat→Nat} {T:Tt} (h:w.heap[b]?=some (Jbu a c T)):w.cell? ⟨b,0,none⟩=some (.slice (a 0) T.st.length (c 0))∧w.cell? ⟨b,1,none⟩=some (.slice (a 1) T.ro.length (c 1))∧w.cell? ⟨b,2,none⟩=some (.slice (a 2) T.ca.length (c 2))∧w.cell? ⟨b,3,none⟩=some (.slice (a 3) T.ex.length (c 3))∧w.cell? ⟨b,4,none⟩=some (.slice (a 4) T.tr.length (c 4))∧w.cell? ⟨b,5,none⟩=some (.slice (a 5) T.fr.length (c 5))∧w.cell? ⟨b,6,none⟩=some (.slice (a 6) T.th.length (c 6))∧w.cell? ⟨b,7,none⟩=some (.slice (a 7) T.gu.length (c 7))∧w.cell? ⟨b,8,none⟩=some (.slice (a 8) T.pa.length (c 8))∧w.cell? ⟨b,9,none⟩=some (.slice (a 9) T.pr.length (c 9))∧w.cell? ⟨b,10,none⟩=some (.int .i64 T.di)∧w.cell? ⟨b,11,none⟩=some (.int .i64 T.wi)∧w.cell? ⟨b,12,none⟩=some (.int .i64 T.cp):=⟨by rw [cell_of_row _ _ _ _ _ _ h];rfl,by rw [cell_of_row _ _ _ _ _ _ h];rfl,by rw [cell_of_row _ _ _ _ _ _ h];rfl,by rw [cell_of_row _ _ _ _ _ _ h];rfl,by rw [cell_of_row _ _ _ _ _ _ h];rfl,by rw [cell_of_row _ _ _ _ _ _ h];rfl,by rw [cell_of_row _ _ _ _ _ _ h];rfl,by rw [cell_of_row _ _ _ _ _ _ h];rfl,by rw [cell_of_row _ _ _ _ _ _ h];rfl,by rw [cell_of_row _ _ _ _ _ _ h];rfl,by rw [cell_of_row _ _ _ _ _ _ h];rfl,by rw [cell_of_row _ _ _ _ _ _ h];rfl,by rw [cell_of_row _ _ _ _ _ _ h];rfl⟩
theorem J8j (F_:Fm) {w:World} {a:Nat→Option Addr} {c:Nat→Nat} {T:Tt} (h:TtL w a c T) (man:manT T=true) (ok:OkTt T) (ln:LnTt T)
  (CN:∀w1:World,Below w.heap.size w w1→(ttC T).2.2=0→Calls prog 34 #[ttV a c T] w1 fun e w'=>∃v,e=.returned v∧Lst w' v ((rows F_ T).map Jax)∧Below w1.heap.size w1 w')
  (hn:(ttC T).2.2=0→(rows F_ T).length≤20000∧(∀l∈(rows F_ T).map Jax,l.length≤16384)∧S4.textR ((rows F_ T).map Jax)=if 65536<(Jnq F_ T).length then ([],5) else (Jnq F_ T,0)) :
  Calls prog 14 #[ttV a c T] w fun e w'=>e=.returned (.tuple #[.string (str (feedF F_ T).1),.int .i64 (feedF F_ T).2])∧Below w.heap.size w w':=by
 obtain⟨w7,h7⟩:∃X,w.alloc (Jbu a c T)=X:=⟨_,rfl⟩;obtain⟨b7,s7,c7⟩:=Jfs h7;have CC:=ckM a c T w7 man ok ln (h.below b7);by_cases h0:(ttC T).2.2=0
 ·obtain⟨n1,n2,n3⟩:=hn h0
  have hf:feedF F_ T=S4.textR ((rows F_ T).map Jax):=by unfold feedF;rw [if_neg (fun q=>q h0),n3]
  rw [hf];rw [h0] at CC;have CN:=Lib.hid (fun w1 b=>CN w1 b h0);have CT:=Lib.hid (fun v w2 (hv:Lst w2 v ((rows F_ T).map Jax))=>S4.ftext_any v ((rows F_ T).map Jax) (by rw [List.length_map];exact n1) n2 w2 hv);have CC:=Lib.hid CC;generalize S4.textR ((rows F_ T).map Jax)=tr at CT ⊢;generalize (ttC T).1=t1 at CC;generalize (ttC T).2.1=t2 at CC;have H7:=Lib.hid (And.intro b7 (And.intro s7 c7));obtain⟨q0,q1,q2,q3,q4,q5,q6,q7,q8,q9,q10,q11,q12⟩:=Jfw c7;clear n1 n2 n3 hf h man ok ln hn h0 b7 s7 c7;go_enter func14,ntmps14
  go_wp2_with fail
  refine CC.out.mono ?_;rintro r w1 ⟨rfl,b1⟩;have B1:=Lib.hid (H7.out.1.trans (b1.mono H7.out.1.size));have C2:=Lib.hid (CN.out w1 B1.out);clear q0 q1 q2 q3 q4 q5 q6 q7 q8 q9 q10 q11 q12;obtain⟨q0,q1,q2,q3,q4,q5,q6,q7,q8,q9,q10,q11,q12⟩:=Jfw (w:=w1) ((b1.block _ H7.out.2.1).trans H7.out.2.2);clear b1 CC CN;go_wp2_with fail
  refine C2.out.mono ?_;rintro r w2 ⟨v,rfl,hv,b2⟩;have C3:=Lib.hid (CT.out v w2 hv);have B2:=Lib.hid (B1.out.trans (b2.mono B1.out.size));clear hv b2 C2 CT B1;go_wp2_with fail
  refine C3.out.mono ?_;rintro r w3 ⟨rfl,b3⟩;have B3:=Lib.hid (B2.out.trans (b3.mono B2.out.size));clear b3 C3 B2;go_wp2_with fail
  go_ret2;exact⟨rfl,B3.out⟩
 ·have hf:feedF F_ T=([],(ttC T).2.2):=by unfold feedF;rw [if_pos h0]
  rw [hf];generalize (ttC T).2.2=t3 at CC h0 ⊢;have CC:=Lib.hid CC;have H7:=Lib.hid (And.intro b7 (And.intro s7 c7));obtain⟨q0,q1,q2,q3,q4,q5,q6,q7,q8,q9,q10,q11,q12⟩:=Jfw c7;clear CN hn h man ok ln hf b7 s7 c7;go_enter func14,ntmps14
  go_wp2_with fail
  refine CC.out.mono ?_;rintro r w1 ⟨rfl,b1⟩;have B1:=Lib.hid (H7.out.1.trans (b1.mono H7.out.1.size));clear b1 CC;go_wp2_with fail
  go_ret2;exact⟨rfl,B1.out⟩
abbrev faV (a:Nat→Option Addr) (c:Nat→Nat) (T:Tt):Value:=.agg #[.slice (a 9) T.pr.length (c 9),.int .i64 T.di,.int .i64 T.wi,.int .i64 T.cp]
theorem J8k {w0 W:World} {F:Nat} (hF:w0.heap.size≤F) (hb:W.heap[F]?=some (.cells #[.slice none 0 0] 125 (0,0))) (b:Below w0.heap.size w0 W):Wrs w0 F [] W:=by
 refine⟨.slice none 0 0,⟨hb,hF,fun i t h=>?_,fun i t h e=>?_,fun i j x y hij hx hy g hg e=>?_,b⟩⟩
 ·match i with
  | 0=>cases h;exact tRow.at (World.ownsRow_nil _ _ _ _)
  | i+1=>simp at h
 ·match i with
  | 0=>cases h;cases e
  | i+1=>simp at h
 ·match i with
  | 0=>cases hx;cases hg
  | i+1=>simp at hx
theorem fl_s1 (l:List Bs):fl s1 l=sts l:=by
 induction l with
 | nil=>rfl
 | cons x l ih=>show .string (str x)::fl s1 l=_;rw [ih];rfl
theorem Qb3 {W:World} {base n:Nat} {v:Value} {l:List Bs} (h:W.ownsRow base 9 1 v n (fl s1 l)) (hn:n=l.length:=by rfl):Lst W v l:=by
 subst hn;rw [fl_s1] at h;exact OwnS.lst (base:=base) h
theorem Jyr {w₀:World} {a:Nat→Option Addr} {c:Nat→Nat} {T:Tt} {R1 R2 R3 R4:List (List Bs)}
  (P:∀(w:World) F,Below w₀.heap.size w₀ w→w.heap.size≤F→(∀W,Wrs w F [] W→Calls prog 54 #[.pointer (some ⟨F,0,none⟩),ttV a c T] W fun e w'=>e=.returned (.tuple #[])∧Wrs w F R1 w')∧(∀W,Wrs w F R1 W→Calls prog 55 #[.pointer (some ⟨F,0,none⟩),ttV a c T] W fun e w'=>e=.returned (.tuple #[])∧Wrs w F R2 w')∧(∀W,Wrs w F R2 W→Calls prog 56 #[.pointer (some ⟨F,0,none⟩),ttV a c T] W fun e w'=>e=.returned (.tuple #[])∧Wrs w F R3 w')∧(∀W,Wrs w F R3 W→Calls prog 57 #[.pointer (some ⟨F,0,none⟩),faV a c T] W fun e w'=>e=.returned (.tuple #[])∧Wrs w F R4 w')) :
  Calls prog 34 #[ttV a c T] w₀ fun e w'=>∃v,e=.returned v∧Lst w' v (R4.map Jax)∧Below w₀.heap.size w₀ w':=by
 obtain⟨w7,h7⟩:∃X,w₀.alloc (Jbu a c T)=X:=⟨_,rfl⟩;obtain⟨b7,s7,c7⟩:=Jfs h7;have e7:w7.heap.size=w₀.heap.size+1:=by rw [←h7];simp
 obtain⟨w2,h2⟩:∃X,w7.alloc (.cells #[.slice none 0 0] 125 (0,0))=X:=⟨_,rfl⟩;have y2:w2.heap[w7.heap.size]?=some (.cells #[.slice none 0 0] 125 (0,0)):=by rw [←h2];exact heap_alloc_new _ _
 have n2:Below w7.heap.size w7 w2:=by rw [←h2];exact (Below.refl _ _).alloc (Nat.le_refl _) _
 have W2:=J8k (Nat.le_refl _) y2 n2;have PP:=Lib.hid (P w7 w7.heap.size b7 (Nat.le_refl _));have KB:=Lib.hid (fun (W:World) (R:List (List Bs)) (h:Wrs w7 w7.heap.size R W)=>(by
  obtain⟨v,G⟩:=h;exact (G.base.block _ s7).trans c7:W.heap[w₀.heap.size]?=some (Jbu a c T)))
 have KE:=Lib.hid (fun (W:World) (h:Wrs w7 w7.heap.size R4 W)=>(by
  obtain⟨v,G⟩:=h;exact⟨v,(G.cell (i:=0) rfl).1,Qb3 (G.row (i:=0) rfl),b7.trans (G.base.mono (by omega))⟩:∃v,W.cell? ⟨w7.heap.size,0,none⟩=some v∧Lst W v (R4.map Jax)∧Below w₀.heap.size w₀ W))
 have C1:=Lib.hid (PP.out.1 w2 W2);obtain⟨q0,q1,q2,q3,q4,q5,q6,q7,q8,q9,q10,q11,q12⟩:=Jfw (KB.out w2 _ W2);rw [e7] at C1 PP KE KB;clear P W2 y2 n2 b7 s7 c7;go_enter func34,ntmps34
 go_wp2_with fail
 refine C1.out.mono ?_;rintro r w3 ⟨rfl,s1⟩;clear q0 q1 q2 q3 q4 q5 q6 q7 q8 q9 q10 q11 q12;obtain⟨q0,q1,q2,q3,q4,q5,q6,q7,q8,q9,q10,q11,q12⟩:=Jfw (w:=w3) (KB.out w3 _ s1);have C2:=Lib.hid (PP.out.2.1 w3 s1);have S1:=Lib.hid s1;clear s1 C1;go_wp2_with fail
 refine C2.out.mono ?_;rintro r w4 ⟨rfl,s2⟩;clear q0 q1 q2 q3 q4 q5 q6 q7 q8 q9 q10 q11 q12;obtain⟨q0,q1,q2,q3,q4,q5,q6,q7,q8,q9,q10,q11,q12⟩:=Jfw (w:=w4) (KB.out w4 _ s2);have C3:=Lib.hid (PP.out.2.2.1 w4 s2);have S2:=Lib.hid s2;clear s2 C2;go_wp2_with fail
 refine C3.out.mono ?_;rintro r w5 ⟨rfl,s3⟩;clear q0 q1 q2 q3 q4 q5 q6 q7 q8 q9 q10 q11 q12;obtain⟨q0,q1,q2,q3,q4,q5,q6,q7,q8,q9,q10,q11,q12⟩:=Jfw (w:=w5) (KB.out w5 _ s3);have C4:=Lib.hid (PP.out.2.2.2 w5 s3);have S3:=Lib.hid s3;clear s3 C3;go_wp2_with fail
 refine C4.out.mono ?_;rintro r w6 ⟨rfl,s4⟩;clear q0 q1 q2 q3 q4 q5 q6 q7 q8 q9 q10 q11 q12;obtain⟨v,q0,hv,hb⟩:=KE.out w6 s4;have HV:=Lib.hid (And.intro hv hb);clear s4 C4 hv hb;go_wp2_with fail
 go_ret;exact⟨v,rfl,HV.out⟩
open Go
structure Sht (F:Fm):Prop where
 num:∀n,-9223372036854775808≤n→n≤9223372036854775807→(F.numT n).length≤256
 prc:∀n,0≤n→n≤1000000→(F.prcT n).length≤256
 tim:∀n,0≤n→n≤172800→(F.timT n).length≤256
 dur:∀n,0≤n→n≤86400→(F.durT n).length≤256
 day:∀n,0≤n→n≤36524→(F.dayT n).length≤256
 mds:∀n,0≤n→n≤255→(F.mdsT n).length≤256
theorem Je0:∀(k u:Nat),u<10 ^ (k+1)→(Lib.decDigits u).length≤k+1
 | 0,u,h=>by
  rw [Lib.decDigits,dif_pos (by simpa using h)];simp
 | k+1,u,h=>by
  rw [Lib.decDigits];split
  ·simp
  ·rw [List.length_append]
   have:=Je0 k (u / 10) (by rw [Nat.div_lt_iff_lt_mul (by omega),←Nat.pow_succ];exact h);simp;omega
theorem twoL (x:Int):(two x).length=2:=rfl
theorem J4c:∀x∈nmL,x.length≤16:=by decide
theorem Jdx {l:List Bs} {n:Nat} (h:∀x∈l,x.length≤n) (i:Int):(atI l i).length≤n:=by
 unfold atI;rw [List.getD_eq_getElem?_getD];cases e:l[i.toNat]? with
 | none=>simp
 | some x=>exact h x (List.mem_of_getElem? e)
theorem Jys (n:Nat):∀m,(txF n m).length≤17*m
 | 0=>by unfold txF;simp
 | m+1=>by
  have ih:=Jys n m;have hn:(nmR m).length≤16:=by
   unfold nmR;rw [List.getD_eq_getElem?_getD];cases e:nmL[m]? with
   | none=>simp
   | some x=>exact J4c x (List.mem_of_getElem? e)
  unfold txF;split
  ·unfold catR
   split
   ·omega
   ·rw [List.length_append,List.length_cons]
    omega
  ·omega
theorem Jh9:Sht fmR where
 num:=fun n h0 h1=>by
  show (Lib.itoa n).length≤256
  unfold Lib.itoa;split
  ·have:=Je0 19 n.natAbs (by omega)
   rw [List.length_cons];omega
  ·have:=Je0 19 n.toNat (by omega)
   omega
 prc:=fun n h0 h1=>by
  show (Lib.decDigits (n.toNat / 100)++46::two _).length≤256
  have:=Je0 9 (n.toNat / 100) (by omega);rw [List.length_append,List.length_cons,twoL];omega
 tim:=fun n h0 h1=>by
  show (Jg3 n).length≤256
  unfold Jg3;simp only [List.length_append,List.length_cons,List.length_nil,twoL];omega
 dur:=fun n h0 h1=>by
  show (Jdg n).length≤256
  unfold Jdg;have a:=Je0 9 (n / 3600).toNat (by omega);have b:=Je0 9 (n % 3600 / 60).toNat (by omega);have c:=Je0 9 (n % 60).toNat (by omega);unfold dec;split
  ·simp only [List.length_append,List.length_cons,List.length_nil,twoL]
   omega
  split
  ·simp only [List.length_append,List.length_cons,List.length_nil,twoL]
   omega
  ·simp only [List.length_append,List.length_cons,List.length_nil]
   omega
 day:=fun n h0 h1=>by
  show (S2.dText _ _).length≤256
  unfold S2.dText S2.dateText S2.four;simp only [List.length_append,List.length_cons,List.length_nil,twoL];omega
 mds:=fun n h0 h1=>by
  show (textR n.toNat).length≤256
  have:=Jys n.toNat 8;unfold textR;split
  ·decide
  ·omega
structure Lim (T:Tt):Prop where
 ist:∀x∈Ja8 T,x.length≤32
 iro:∀x∈Jcc T,x.length≤32
 ica:∀x∈Jbn T,x.length≤32
 itr:∀x∈Jbh T,x.length≤32
 ipr:∀x∈T.pr,x.1.length≤32
 st:T.st.length≤64
 ro:T.ro.length≤64
 ca:T.ca.length≤64
 ex:T.ex.length≤256
 tr:T.tr.length≤256
 cc:∀x∈T.tr,(clT x).length≤32
 fr:T.fr.length≤64
 th:T.th.length≤128
 gu:T.gu.length≤128
 pa:T.pa.length≤512
 pr:T.pr.length≤16
theorem Jfx {x:Bs} (h:¬Jak x=false):x.length≤32:=((Je2 x).1 (by simpa using h)).1.2
theorem J4d {T:Tt} (h:(ttC T).2.2=0):Lim T:=by
 have hp:=(Jvz T).1 h;have h0:(S13.chkT T.st).2=0:=hp 0 (by omega);have h1:(chkR T.ro).2=0:=hp 1 (by omega);have h2:(S14.chkC T.ca).2=0:=hp 2 (by omega);have h3:(S14.chkX T.ca.length T.ex).2=0:=hp 3 (by omega);have h4:(S17.chkT T.st.length T.ro.length T.ca.length T.tr).2=0:=hp 4 (by omega);have h5:(chkF (T.tr.map clT) T.fr).2=0:=hp 5 (by omega);have h6:(S19.chkH (T.tr.map S19.tcT) T.fr T.th).2=0:=hp 6 (by omega);have h7:(S19.chkU (T.tr.map S19.tcT) T.fr T.st.length T.gu).2=0:=hp 7 (by omega);have h8:(S20.chkP T.st.length T.pa).2=0:=hp 8 (by omega);have h9:(S21.chkPd T.di T.wi T.cp T.pr).2=0:=hp 9 (by omega);unfold S13.chkT at h0;unfold chkR at h1;unfold S14.chkC at h2;unfold S14.chkX at h3;unfold S17.chkT at h4;unfold chkF at h5;unfold S19.chkH at h6;unfold S19.chkU at h7;unfold S20.chkP at h8;unfold S21.chkPd at h9;split at h0
 ·simp at h0
 next l0 =>
 split at h1
 ·simp at h1
 next l1 =>
 split at h2
 ·simp at h2
 next l2 =>
 split at h3
 ·simp at h3
 next l3 =>
 split at h4
 ·simp at h4
 next l4 =>
 split at h5
 ·simp at h5
 next l5 =>
 split at h6
 ·simp at h6
 next l6 =>
 split at h7
 ·simp at h7
 next l7 =>
 split at h8
 ·simp at h8
 next l8 =>
 split at h9
 ·simp at h9
 split at h9
 ·simp at h9
 next l9 =>
 rw [Jjq] at h0;have hcc:∀x∈T.tr,Jak x.1=true∧(clT x).length≤32:=fun x hx=>by
  obtain⟨s,hb⟩:=Jc2 h4 hx;unfold S17.badT at hb;split at hb
  ·simp at hb
  next hv =>
  split at hb
  ·simp at hb
  split at hb
  ·unfold chkC at hb
   split at hb
   ·simp at hb
   ·next hc =>
    have:¬(32<x.2.2.2.2.2.length):=fun q=>hc (.inr q)
    exact⟨by simpa using hv,Nat.le_of_not_lt this⟩
  ·simp at hb
 exact {
  ist:=fun y hy=>by
   obtain⟨x,hx,rfl⟩:=List.mem_map.1 hy;obtain⟨s,hb⟩:=Jc2 h0 hx;unfold S13.badS at hb;split at hb
   ·simp at hb
   ·next hv=>exact Jfx hv
  iro:=fun y hy=>by
   obtain⟨x,hx,rfl⟩:=List.mem_map.1 hy;obtain⟨s,hb⟩:=Jc2 h1 hx;unfold badR at hb;split at hb
   ·simp at hb
   ·next hv=>exact Jfx hv
  ica:=fun y hy=>by
   obtain⟨x,hx,rfl⟩:=List.mem_map.1 hy;obtain⟨s,hb⟩:=Jc2 h2 hx;unfold S14.badC at hb;split at hb
   ·simp at hb
   ·next hv=>exact Jfx hv
  itr:=fun y hy=>by
   obtain⟨x,hx,rfl⟩:=List.mem_map.1 hy;exact ((Je2 x.1).1 (hcc x hx).1).1.2
  ipr:=fun x hx=>by
   obtain⟨s,hb⟩:=Jc2 h9 hx;unfold S21.badPd at hb;split at hb
   ·simp at hb
   ·next hv=>exact Jfx hv
  st:=by omega
  ro:=by omega
  ca:=by omega
  ex:=by omega
  tr:=by omega
  cc:=fun x hx=>(hcc x hx).2
  fr:=by omega
  th:=by omega
  gu:=by omega
  pa:=by omega
  pr:=by omega }
def Shr (fs:List Bs):Prop:=fs.length≤7∧∀x∈fs,x.length≤256
theorem J4e (x:Bs):(Jai x).length≤4*x.length+2:=by
 have he:∀c,(esc c).length≤4:=fun c=>by
  unfold esc;split
  ·simp
  split <;> simp
 have hi:(Ja5 x).length≤4*x.length:=by
  unfold Ja5;induction x with
  | nil=>simp
  | cons c x ih =>
   rw [List.flatMap_cons,List.length_append,List.length_cons];have:=he c;omega
 unfold Jai;split
 ·omega
 ·rw [List.length_cons,List.length_append]
  simp only [List.length_cons,List.length_nil];omega
theorem line_le:∀fs:List Bs,(∀x∈fs,x.length≤256)→(Jax fs).length≤1027*fs.length
 | [],_=>by simp [Jax]
 | [x],h=>by
  show (Jai x).length≤_
  have:=J4e x;have:=h x (by simp);simp only [List.length_cons,List.length_nil];omega
 | x::y::l,h=>by
  show (Jai x++44::Jax (y::l)).length≤_
  have:=J4e x;have:=h x (by simp);have ih:=line_le (y::l) (fun z hz=>h z (by simp [hz]));rw [List.length_append,List.length_cons,List.length_cons];rw [List.length_cons] at ih;rw [List.length_cons];omega
theorem Shr.line {fs:List Bs} (h:Shr fs):(Jax fs).length≤7189:=by
 have:=line_le fs h.2;have:=h.1;omega
theorem Jko (b:Bool):(flgT b).length≤256:=by cases b <;> decide
theorem J8l (k:Nat→Bool):(wkT k).length≤256:=by unfold wkT;simp
theorem J8m (b a:Bool):(prmT b a).length≤256:=by cases b <;> cases a <;> decide
section
variable {F:Fm} {T:Tt} (V:Val T) (L:Lim T) (S:Sht F)
include V L S
theorem J4f {x:S13.St} (hx:x∈T.st):Shr (rSt F x):=by
 obtain⟨h1,h2⟩:=V.st x hx;have a:=L.ist x.1 (List.mem_map.2 ⟨x,hx,rfl⟩);have b:=S.num _ h1.1 h1.2;have c:=S.num _ h2.1 h2.2;have d:=Jko x.2.2.1;refine⟨by simp [rSt],fun y hy=>?_⟩;simp only [rSt,List.mem_cons,List.not_mem_nil,or_false] at hy;rcases hy with rfl | rfl | rfl | rfl | rfl
 ·decide
 all_goals omega
theorem J4g {x:S14.Cl} (hx:x∈T.ca):Shr (rCa F x):=by
 obtain⟨h1,h2⟩:=V.ca x hx;have a:=L.ica x.1 (List.mem_map.2 ⟨x,hx,rfl⟩);have b:=S.day _ h1.1 h1.2;have c:=S.day _ h2.1 h2.2;have d:=J8l x.2.1;refine⟨by simp [rCa],fun y hy=>?_⟩;simp only [rCa,List.mem_cons,List.not_mem_nil,or_false] at hy;rcases hy with rfl | rfl | rfl | rfl | rfl
 ·decide
 all_goals omega
theorem J4h {x:S14.Ex} (hx:x∈T.ex):Shr (rEx F T x):=by
 obtain⟨h1,h2⟩:=V.ex x hx;have a:=Jdx L.ica x.1;have b:=S.day _ h2.1 h2.2;refine⟨by simp [rEx],fun y hy=>?_⟩;simp only [rEx,List.mem_cons,List.not_mem_nil,or_false] at hy;rcases hy with rfl | rfl | rfl | rfl
 ·decide
 ·omega
 ·omega
 ·cases x.2.2 <;> decide
theorem J4i {x:Tp} (hx:x∈T.tr) {c:Cl} (hc:c∈clT x):Shr (rCc F T c):=by
 obtain⟨h1,h2,h3⟩:=V.cc x hx c hc;have a:=Jdx L.ist c.1;have b:=S.tim _ h2.1 h2.2;have d:=S.tim _ h3.1 h3.2;have e:=J8m c.2.2.2.1 c.2.2.2.2;refine⟨by simp [rCc],fun y hy=>?_⟩;simp only [rCc,List.mem_cons,List.not_mem_nil,or_false] at hy;rcases hy with rfl | rfl | rfl | rfl | rfl
 ·decide
 all_goals omega
theorem J4j {x:Fq} (hx:x∈T.fr):Shr (rFr F T x):=by
 obtain⟨h1,h2,h3,h4⟩:=V.fr x hx;have a:=Jdx L.itr x.1;have b:=S.tim _ h2.1 h2.2;have c:=S.tim _ h3.1 h3.2;have d:=S.dur _ h4.1 h4.2;refine⟨by simp [rFr],fun y hy=>?_⟩;simp only [rFr,List.mem_cons,List.not_mem_nil,or_false] at hy;rcases hy with rfl | rfl | rfl | rfl | rfl
 ·decide
 all_goals omega
theorem J4k {x:S20.Fp} (hx:x∈T.pa):Shr (rPa F T x):=by
 obtain⟨h1,h2,h3⟩:=V.pa x hx;have a:=Jdx L.ist x.1;have b:=Jdx L.ist x.2.1;have c:=S.dur _ h3.1 h3.2;have d:=Jko x.2.2.2;refine⟨by simp [rPa],fun y hy=>?_⟩;simp only [rPa,List.mem_cons,List.not_mem_nil,or_false] at hy;rcases hy with rfl | rfl | rfl | rfl | rfl
 ·decide
 all_goals omega
theorem J4l {x:S21.Pd} (hx:x∈T.pr):Shr (rPr F x):=by
 obtain⟨h1,h2,h3,h4,h5⟩:=V.pr x hx;have a:=L.ipr x hx;have b:=S.prc _ h1.1 h1.2;have c:=S.num _ h2.1 h2.2;have d:=S.num _ h3.1 h3.2;have e:=S.dur _ h4.1 h4.2;have f:=S.mds _ h5.1 h5.2;refine⟨by simp [rPr],fun y hy=>?_⟩;simp only [rPr,List.mem_cons,List.not_mem_nil,or_false] at hy;rcases hy with rfl | rfl | rfl | rfl | rfl | rfl | rfl
 ·decide
 all_goals omega
theorem J4m {fs:List Bs} (hx:fs∈rFa F T):Shr fs:=by
 obtain⟨h1,h2,h3⟩:=V.fa;have a:=S.prc _ h1.1 h1.2;have b:=S.dur _ h2.1 h2.2;have c:=S.prc _ h3.1 h3.2;have _:=L.st;unfold rFa at hx;split at hx
 ·rw [List.mem_singleton] at hx
  subst hx;refine⟨by simp,fun y hy=>?_⟩;simp only [List.mem_cons,List.not_mem_nil,or_false] at hy;rcases hy with rfl | rfl | rfl | rfl
  ·decide
  all_goals omega
 ·cases hx
end
section
variable {T:Tt} (L:Lim T)
include L
theorem J4n {x:Rt} (hx:x∈T.ro):Shr (rRo x):=by
 have a:=L.iro x.1 (List.mem_map.2 ⟨x,hx,rfl⟩);have b:=Jdx J4c x.2.1;have d:=Jko x.2.2;refine⟨by simp [rRo],fun y hy=>?_⟩;simp only [rRo,List.mem_cons,List.not_mem_nil,or_false] at hy;rcases hy with rfl | rfl | rfl | rfl
 ·decide
 all_goals omega
theorem J4o {x:Tp} (hx:x∈T.tr):Shr (rTr T x):=by
 have a:=L.itr x.1 (List.mem_map.2 ⟨x,hx,rfl⟩);have b:=Jdx L.iro x.2.1;have c:=Jdx L.ica x.2.2.1;have d:=Jko x.2.2.2.1;refine⟨by simp [rTr],fun y hy=>?_⟩;simp only [rTr,List.mem_cons,List.not_mem_nil,or_false] at hy;rcases hy with rfl | rfl | rfl | rfl | rfl
 ·decide
 all_goals omega
theorem J4p {x:S19.Th}:Shr (rTh T x):=by
 have a:=Jdx L.itr x.1;have b:=Jdx L.itr x.2;refine⟨by simp [rTh],fun y hy=>?_⟩;simp only [rTh,List.mem_cons,List.not_mem_nil,or_false] at hy;rcases hy with rfl | rfl | rfl
 ·decide
 all_goals omega
theorem J4q {x:S19.Gt}:Shr (rGu T x):=by
 have a:=Jdx L.itr x.1;have b:=Jdx L.itr x.2.1;have c:=Jdx L.ist x.2.2;refine⟨by simp [rGu],fun y hy=>?_⟩;simp only [rGu,List.mem_cons,List.not_mem_nil,or_false] at hy;rcases hy with rfl | rfl | rfl | rfl
 ·decide
 all_goals omega
end
theorem J2z {F:Fm} {T:Tt} (V:Val T) (L:Lim T) (S:Sht F):∀r∈rows F T,Shr r:=by
 intro r hr;unfold rows at hr;simp only [List.mem_append,List.mem_map,List.mem_flatMap] at hr;rcases hr with ⟨x,hx,rfl⟩ | ⟨x,hx,rfl⟩ | ⟨x,hx,rfl⟩ | ⟨x,hx,rfl⟩ | ⟨x,hx,hr⟩ | ⟨x,hx,rfl⟩ | ⟨x,hx,rfl⟩ | ⟨x,hx,rfl⟩ | ⟨x,hx,rfl⟩ | hr | ⟨x,hx,rfl⟩
 ·exact J4f V L S hx
 ·exact J4n L hx
 ·exact J4g V L S hx
 ·exact J4h V L S hx
 ·unfold bTr at hr
  rw [List.mem_cons,List.mem_map] at hr;rcases hr with rfl | ⟨c,hc,rfl⟩
  ·exact J4o L hx
  ·exact J4i V L S hx hc
 ·exact J4j V L S hx
 ·exact J4p L
 ·exact J4q L
 ·exact J4k V L S hx
 ·exact J4m V L S hr
 ·exact J4l V L S hx
theorem Jkp {F:Fm} {T:Tt}:∀l:List Tp,(∀x∈l,(clT x).length≤32)→(l.flatMap (bTr F T)).length≤33*l.length
 | [],_=>by simp
 | x::l,h=>by
  rw [List.flatMap_cons,List.length_append,List.length_cons];have ih:=Jkp (F:=F) (T:=T) l (fun y hy=>h y (by simp [hy]));have hb:(bTr F T x).length=1+(clT x).length:=by unfold bTr;rw [List.length_cons,List.length_map];omega
  have:=h x (by simp);omega
theorem J20 {F:Fm} {T:Tt} (L:Lim T):(rows F T).length≤20000:=by
 have h1:=Jkp (F:=F) (T:=T) T.tr L.cc;have h2:(rFa F T).length≤1:=by unfold rFa;split <;> simp
 obtain⟨-,-,-,-,-,a,b,c,d,e,-,g,i,j,k,l⟩:=L;unfold rows;simp only [List.length_append,List.length_map];omega
theorem Jyt {F:Fm} {T:Tt} (V:Val T) (L:Lim T) (S:Sht F):(rows F T).length≤20000∧(∀l∈(rows F T).map Jax,l.length≤16384)∧S4.textR ((rows F T).map Jax)=if 65536<(Jnq F T).length then ([],5) else (Jnq F T,0):=by
 refine⟨J20 L,fun l hl=>?_,?_⟩
 ·obtain⟨r,hr,rfl⟩:=List.mem_map.1 hl
  have:=(J2z V L S r hr).line;omega
 ·unfold S4.textR
  have:((rows F T).map Jax).any S4.fed=false:=by
   rw [List.any_eq_false];intro l hl;obtain⟨r,-,rfl⟩:=List.mem_map.1 hl;unfold S4.fed;rw [decide_eq_true_iff];exact fun hb=>Jlt r 10 hb rfl
  rw [this];rfl
theorem Gst.mored {w0 W W':World} {F b:Nat} {T:TypeId} {vs:List Value} {ts:List Tng} {o:Obj} (h:Gst w0 F T vs ts W) (bl:Below W.heap.size W W') (hb:W.heap.size≤b) (ho:W'.heap[b]?=some o):Gst w0 F T vs (ts++[tObj b o]) W':=by
 have g:=h.on bl;have hF:b≠F:=by have:=h.lt;omega
 have key:∀(j:Nat) (a:Tng),(ts++[tObj b o])[j]?=some a→ts[j]?=some a∨(j=ts.length∧a=tObj b o):=by
  intro j a ha;rw [List.getElem?_append] at ha;split at ha
  ·exact .inl ha
  ·next hlt =>
   right
   rw [List.getElem?_singleton] at ha;split at ha
   ·next e=>cases ha;exact⟨by omega,rfl⟩
   ·cases ha
 have off:∀(j:Nat) (a:Tng),ts[j]?=some a→a.own≠some b:=fun j a ha e=>by have:=((h.own j a ha).lt b e).2;omega
 refine⟨g.box,g.low,fun j a ha=>?_,fun j a ha e=>?_,fun j m a c hjm ha hc=>?_,g.base⟩
 ·rcases key j a ha with h1 | ⟨-,rfl⟩
  ·exact g.own j a h1
  ·exact tObj.at ho (Nat.le_trans h.base.size hb)
 ·rcases key j a ha with h1 | ⟨-,rfl⟩
  ·exact h.off j a h1 e
  ·exact hF (Option.some.inj e)
 ·rcases key j a ha with h1 | ⟨e1,rfl⟩
  ·rcases key m c hc with h2 | ⟨-,rfl⟩
   ·exact h.apart j m a c hjm h1 h2
   ·exact fun k e1 e2=>off j a h1 (by rw [e1,←e2];rfl)
  ·rcases key m c hc with h2 | ⟨e2,-⟩
   ·exact fun k e1 e2=>off m c h2 (by rw [e2,←e1];rfl)
   ·omega
theorem Gst.head {w0 W:World} {F:Nat} {T:TypeId} {vs:List Value} {t:Tng} {ts:List Tng} (h:Gst w0 F T vs (t::ts) W):Gst w0 F T vs [t] W:=by
 have up:∀(i:Nat) a,[t][i]?=some a→(t::ts)[i]?=some a:=fun i a ha=>by
  match i with
  | 0=>exact ha
  | i+1=>simp at ha
 exact⟨h.box,h.low,fun i a ha=>h.own i a (up i a ha),fun i a ha=>h.off i a (up i a ha),fun i j a b hij ha hb=>h.apart i j a b hij (up i a ha) (up j b hb),h.base⟩
def Wrx (w0:World) (F:Nat) (R:List (List Bs)) (xs:List (Nat×Obj)) (W:World):Prop:=Wsx w0 F (R.map Jax) (xs.map fun x=>tObj x.1 x.2) W
section
variable {w0 W W':World} {F b:Nat} {o:Obj} {R:List (List Bs)} {xs:List (Nat×Obj)}
theorem Wrx.on (h:Wrx w0 F R xs W) (bl:Below W.heap.size W W'):Wrx w0 F R xs W':=by
 obtain⟨v,G⟩:=h;exact⟨v,G.on bl⟩
theorem Wrx.base (h:Wrx w0 F R xs W):Below w0.heap.size w0 W:=by
 obtain⟨v,G⟩:=h;exact G.base
theorem Wrx.row (h:Wrx w0 F R xs W) {i:Nat} (hi:xs[i]?=some (b,o)):W.heap[b]?=some o:=by
 obtain⟨v,G⟩:=h;exact (G.blk (i:=i+1) (b:=b) (P:=fun W=>W.heap[b]?=some o) (by rw [List.getElem?_cons_succ,List.getElem?_map,hi];rfl)).1
theorem Wrx.more (h:Wrx w0 F R xs W) (bl:Below W.heap.size W W') (hb:W.heap.size≤b) (ho:W'.heap[b]?=some o):Wrx w0 F R (xs++[(b,o)]) W':=by
 obtain⟨v,G⟩:=h;have:=G.mored bl hb ho;refine⟨v,?_⟩;rw [List.map_append];exact this
theorem Wrx.none (h:Wrx w0 F R xs W):Wrs w0 F R W:=by
 obtain⟨v,G⟩:=h;exact⟨v,G.head⟩
theorem Wrx.less {x:Nat×Obj} (h:Wrx w0 F R (xs++[x]) W):Wrx w0 F R xs W:=by
 obtain⟨v,G⟩:=h;rw [List.map_append] at G;exact⟨v,Gst.less (ts:=tRow w0.heap.size ⟨9,1,v,(R.map Jax).length,fl s1 (R.map Jax)⟩::xs.map fun x=>tObj x.1 x.2) G⟩
theorem Wrs.x (h:Wrs w0 F R W):Wrx w0 F R [] W:=h
end
theorem Jcu {w0 W:World} {F:Nat} {R:List (List Bs)} {xs:List (Nat×Obj)} (h:Wrx w0 F R xs W) (hl:R.length≤1000000) (f:Value) (fs:List Bs) (hf:Lst W f fs) (hs:Shr fs) :
  Calls prog 134 #[.pointer (some ⟨F,0,none⟩),f] W fun e w'=>e=.returned (.tuple #[])∧Wrx w0 F (R++[fs]) xs w':=by
 have h7:=hs.line;have e:S4.joinR fs=(Jax fs,0):=by
  have:=hs.1;unfold S4.joinR;rw [if_neg (by omega),if_neg (by omega)]
 have:=Qbz h (by rw [List.length_map];exact hl) f fs hf (by have:=hs.1;omega) (fun x hx=>by have:=hs.2 x hx;omega);rw [e] at this;refine this.mono fun e w' q=>⟨q.1,?_⟩
 unfold Wrx;rw [List.map_append];exact q.2
theorem Jb7 (w:World) (cs:Array Value) (ls:List Bs) (h:cs.toList=sts ls) (n:Nat) (hn:ls.length=n):Lst (w.alloc (.cells cs 9 (0,0))) (.slice (some ⟨w.heap.size,0,none⟩) n n) ls:=by
 subst hn;refine⟨_,_,rfl,⟨Nat.le_refl _,fun h=>by cases h⟩,fun _=>⟨w.heap.size,0,rfl,by simp,fun j x hj=>?_⟩⟩;rw [Nat.zero_add,cell_of_row _ _ _ _ _ _ (heap_alloc_new w _)];rw [←h] at hj;simpa using hj
theorem Jgt {P:Program} {md:Region.Mode} {ops:Array Oper} {Q:Exit→Act→World→Prop} {S:World→Prop} {T:List Sk} {fuel:Nat} {l:List Bool} {a:Act} {w:World} {i:Nat} {oi:Oper} {f:FuncId} {vals:Array Value} {u:Value} {R:World→Prop} (d:Nat) (l':List Bool) (hl:l.set i true=l') (hr:Jbb T l=[i]) (hi:ops[i]?=some oi) (hd:oi.dst=some d) (wi:Region.wanted oi (yielded ops a.tmps)=true)
  (hrun:(execOp a.eval oi).run P w=.ok (.enter f vals) w) (C:Calls P f vals w fun e w'=>e=.returned u∧R w') (h:∀w',R w'→S w'∧wpT P md ops Q S T fuel l' (a.put (some d) u) w'):wpT P md ops Q S T (fuel+1) l a w :=
 Jbr (R:=fun v X=>v=u∧R X) d l' hl hr hi hd wi hrun (C.mono fun e w' h=>⟨u,h.1,rfl,h.2⟩) (fun v w' hv=>by obtain⟨rfl,hv⟩:=hv;exact h w' hv)
theorem Jor {a b c d:Nat} (h:(some ⟨a,b,none⟩:Option Addr)=some ⟨c,d,none⟩):a=c∧b=d:=by
 have:=Option.some.inj h;injection this with h1 h2
 exact⟨h1,h2⟩
theorem Jcl {α β:Type} {l:List α} {k:Nat} {x:α} (f:α→β) (h:l[k]?=some x) (R:List β):R++(l.take (k+1)).map f=(R++(l.take k).map f)++[f x]:=by
 obtain⟨hl,rfl⟩:=List.getElem?_eq_some_iff.1 h;rw [List.take_add_one,h,List.map_append,List.append_assoc];rfl
theorem Jyu {α β:Type} {l:List α} {k:Nat} {x:α} (f:α→List β) (h:l[k]?=some x) (R:List β):R++(l.take (k+1)).flatMap f=(R++(l.take k).flatMap f)++f x:=by
 rw [List.take_add_one,h,List.flatMap_append,List.append_assoc];simp
theorem Jas {P:Program} {a:Act} {oi:Oper} {w:World} (t e:TypeId) (x y:Operand) (ho:oi.op=.indexAddr t x y) (b o n c m K:Nat) (hx:a.eval x=.slice (some ⟨b,o,none⟩) n c) (hy:a.eval y=.int .i64 (m:Int)) (hm:m<n) (hT:P.underlying t=some (.slice e)) (hs:∀w,(sizeOf e).run P w=.ok K w) :
  (execOp a.eval oi).run P w=.ok (.value (.pointer (some ⟨b,o+m*K,none⟩))) w:=by
 have he:P.elem t=e:=by simp [Program.elem,hT]
 have hr:(Instr.indexAt t (.slice (some ⟨b,o,none⟩) n c) (.int .i64 (m:Int))).run P w=.ok (.pointer (some ⟨b,o+m*K,none⟩)) w:=by
  rw [run_indexAt_slice (P:=P) (w:=w) t ⟨b,o,none⟩ n c .i64 m (by rw [he];exact hT),if_pos (by omega),he,hs];simp [Addr.add]
 unfold execOp;simp only [ho,hx,hy,Sem.run_bind,hr,Result.andThen_ok,Sem.run_pure]
theorem Jcv {α:Type} {l:List α} {f:α→Bs} {i:Int} {m:Nat} (hi:i=(m:Int)) {x:α} (h:l[m]?=some x):atI (l.map f) i=f x:=by
 subst hi;unfold atI;rw [List.getD_eq_getElem?_getD,Int.toNat_natCast,List.getElem?_map,h];rfl
end
end Go.Proofs.YtpifdbphmnifdaaGreatDoor
