/-
  Facts. Condition: each theorem's own.
-/
import Derived.Shelf.Sort.Plain
import Derived.Shelf.Slices.In.SortNone
import Derived.Test.YtpifdbphmnifdaaGreatDoorYC5
set_option maxRecDepth 100000
set_option maxHeartbeats 8000000
section
variable {p:Prop}
theorem Zl (h:p:=by rw [←hw1];exact (Below.refl _ _).alloc Ph _):p:=h
end
namespace Go.Proofs
open Go.Shelf
def Tryz.lays189_ren:Go.Shelf.Ren:=⟨fun | 189=>334 | 125=>361 | 257=>360 | 128=>380 | 129=>381 | 294=>371 | 295=>372 | 296=>373 | 297=>374 | 298=>375 | 299=>376 | 216=>377 | 300=>378 | 301=>379 | 328=>389 | 329=>390 | 330=>391 | 331=>392 | 332=>393 | 215=>394 | 343=>401 | n=>n,fun | 28=>84 | 3=>3 | 46=>223 | 0=>0 | 51=>280 | 53=>225 | 4=>4 | 183=>306 | 182=>305 | 131=>248 | 5=>5 | 9=>9 | 218=>321 | 222=>325 | 228=>333 | 229=>94 | n=>n,fun | n=>n⟩
theorem Tryz.lays189:Go.Proofs.Lays.n189 Tryz.prog Tryz.lays189_ren:={
 mixed:=Kk
 f125:=Tryz.func361.trans (congrArg some Kk)
 f128:=Tryz.func380.trans (congrArg some Kk)
 f129:=Tryz.func381.trans (congrArg some Kk)
 f189:=Tryz.func334.trans (congrArg some Kk)
 f215:=Tryz.func394.trans (congrArg some Kk)
 f216:=Tryz.func377.trans (congrArg some Kk)
 f257:=Tryz.func360.trans (congrArg some Kk)
 f294:=Tryz.func371.trans (congrArg some Kk)
 f295:=Tryz.func372.trans (congrArg some Kk)
 f296:=Tryz.func373.trans (congrArg some Kk)
 f297:=Tryz.func374.trans (congrArg some Kk)
 f298:=Tryz.func375.trans (congrArg some Kk)
 f299:=Tryz.func376.trans (congrArg some Kk)
 f300:=Tryz.func378.trans (congrArg some Kk)
 f301:=Tryz.func379.trans (congrArg some Kk)
 f328:=Tryz.func389.trans (congrArg some Kk)
 f329:=Tryz.func390.trans (congrArg some Kk)
 f330:=Tryz.func391.trans (congrArg some Kk)
 f331:=Tryz.func392.trans (congrArg some Kk)
 f332:=Tryz.func393.trans (congrArg some Kk)
 f343:=Tryz.func401.trans (congrArg some Kk)
 t0:=Tryz.underlying0
 a0:=Tryz.isAgg0
 z0:=Tryz.sizeOf0
 v0:=Tryz.zeroValue0
 t3:=Tryz.underlying3
 a3:=Tryz.isAgg3
 z3:=Tryz.sizeOf3
 v3:=Tryz.zeroValue3
 t4:=Tryz.underlying4
 a4:=Tryz.isAgg4
 z4:=Tryz.sizeOf4
 v4:=Tryz.zeroValue4
 t5:=Tryz.underlying5
 a5:=Tryz.isAgg5
 z5:=Tryz.sizeOf5
 v5:=Tryz.zeroValue5
 t9:=Tryz.underlying9
 a9:=Tryz.isAgg9
 z9:=Tryz.sizeOf9
 v9:=Tryz.zeroValue9
 t28:=Tryz.underlying84
 a28:=Tryz.isAgg84
 z28:=Tryz.sizeOf84
 v28:=Tryz.zeroValue84
 t46:=Tryz.underlying223
 a46:=Tryz.isAgg223
 z46:=Tryz.sizeOf223
 v46:=Tryz.zeroValue223
 t51:=Tryz.underlying280
 a51:=Tryz.isAgg280
 z51:=Tryz.sizeOf280
 v51:=Tryz.zeroValue280
 t53:=Tryz.underlying225
 a53:=Tryz.isAgg225
 z53:=Tryz.sizeOf225
 v53:=Tryz.zeroValue225
 t131:=Tryz.underlying248
 a131:=Tryz.isAgg248
 z131:=Tryz.sizeOf248
 v131:=Tryz.zeroValue248
 t182:=Tryz.underlying305
 a182:=Tryz.isAgg305
 z182:=Tryz.sizeOf305
 v182:=Tryz.zeroValue305
 t183:=Tryz.underlying306
 a183:=Tryz.isAgg306
 z183:=Tryz.sizeOf306
 v183:=Tryz.zeroValue306
 t218:=Tryz.underlying321
 a218:=Tryz.isAgg321
 z218:=Tryz.sizeOf321
 v218:=Tryz.zeroValue321
 t222:=Tryz.underlying325
 a222:=Tryz.isAgg325
 z222:=Tryz.sizeOf325
 v222:=Tryz.zeroValue325
 t228:=Tryz.underlying333
 a228:=Tryz.isAgg333
 z228:=Tryz.sizeOf333
 v228:=Tryz.zeroValue333
 t229:=Tryz.underlying94
 a229:=Tryz.isAgg94
 z229:=Tryz.sizeOf94
 v229:=Tryz.zeroValue94 }
open Go.Sort Go.RowKit in
theorem Tryz.slices_Sort_int (blk off cap:Nat) (zs:List Int) (w:World) (hH:Holds (Value.int .i64) w blk off zs.toArray) (hblk:blk<w.heap.size) (hsz:zs.length<4611686018427387904) :
  Calls Tryz.prog 334 #[.slice (some ⟨blk,off,none⟩) zs.length cap] w fun e w' =>
   e=.returned (.tuple #[])∧∃n os,w'=grow (putRow (Value.int .i64) (Sort.ahead w n) blk off (zs.mergeSort fun x y=>decide (x≤y)).toArray) os:=Any.slices_Sort_int Tryz.lays189 blk off cap zs w hH hblk hsz
open Go.RowKit Go.Sort in
theorem Tryz.slices_Sort_int_none (p:Option Addr) (cap:Nat) (w:World) :
  Calls Tryz.prog 334 #[.slice p 0 cap] w fun e w'=>e=.returned (.tuple #[])∧w'=w:=Any.slices_Sort_int_none Tryz.lays189 p cap w
end Go.Proofs
namespace Go.Proofs.YtpifdbphmnifdaaGreatDoor
open Go.RowKit
theorem J9d:(Tryz.prog.info? 118).map (fun i=>(i.zero,i.size,i.bytes))=some (some (.agg #[.int .i64 0,.int .i64 0,.int .i64 0,.int .i64 0]),4,32):=Kk
theorem Jx7:∀w,(Go.sizeOf 118).run Tryz.prog w=.ok 4 w:=fun w=>by
 obtain⟨i,hi,_,hsz,_⟩:=info_parts J9d;simp [sizeOf,typeInfo,hi,hsz]
theorem Jkl:Tryz.prog.elem 28=118:=by simp [Program.elem,Tryz.underlying28]
theorem Jp8:Tryz.prog.underlying 28=some (.slice (Tryz.prog.elem 28)):=by rw [Jkl];exact Tryz.underlying28
theorem Jsu {w:World} {vl:Value} {l:List Fq} (h:LstF w vl l) (j:Nat) (hj:j≤l.length) (_:l.length≤9223372036854775807) (x:Int) (hx:x=j):∃u,(∀W,(Instr.slice 28 vl none (some (.int .i64 x)) none).run Tryz.prog W=.ok u W)∧LstF w u (l.take j):=by
 subst hx;have H:=h;obtain⟨A,c,rfl,hc,-,-⟩:=h;refine⟨sliced A 0 j c 4,fun W=>?_,?_⟩
 ·rw [run_slice_h W 28 A l.length c Jp8 .i64 j Kd Kd,Jkl,Jx7]
  rfl
 ·have:=LstG.part fe_len H 0 j c (Nat.zero_le _) hj Kd Ph
  exact Zh
theorem Jb8 {P:Program} {K:FuncId} {fn:Func} (hf:P.funcs[K]?=some fn) (hn:(fn.name=="runtime.NumGoroutine")=false) (hb:fn.body.isNone=false):∀args W,(callFunc K args).run P W=.ok (.enter K args) W:=by
 intro args W;unfold callFunc;simp at hn;simp [hf,hn];intro h0;rw [h0] at hb;cases hb
theorem J6y {α:Type} (p:α→Bool) (l:List α):decide (0≤fdT p l)=l.any p:=by
 cases h:l.any p with
 | true =>
  obtain⟨x,hx,hp⟩:=List.any_eq_true.1 h;refine Pk ?_;rcases Jlo p l with h1 | h1
  ·exfalso
   have:∀(r:List α) (k:Nat),fdF p k r=-1→∀z∈r,p z=false:=by
    intro r;induction r with
    | nil=>intro k _ z hz;cases hz
    | cons y r ih =>
     intro k hk z hz;unfold fdF at hk;split at hk
     ·omega
     ·next hy =>
      rcases List.mem_cons.1 hz with rfl | hz
      ·exact Bool.eq_false_iff.2 hy
      ·exact ih _ hk z hz
   have:=this l 0 h1 x hx;rw [hp] at this;cases this
  ·exact h1.1
 | false =>
  refine Pj fun h0=>?_
  obtain⟨j,x,hx,hp,-⟩:=J6k (p:=p) (l:=l) Kd;rw [List.any_eq_false] at h;exact h x (List.mem_iff_getElem?.2 ⟨j,hx⟩) hp
theorem J3c (g:Nat) (cv:Value) (p:Fq→Bool) (ce:∀args W,(callFunc g args).run Tryz.prog W=.ok (.enter g args) W) (vl:Value) (l:List Fq) (hl:l.length≤5000) (w:World) (h:LstF w vl l)
  (hp:∀(k:Nat) (t a b v:Int),l[k]?=some (t,a,b,v)→∀W,Pn w W→Calls Tryz.prog g #[fqV t a b v,cv] W fun e W'=>e=.returned (.bool (p (t,a,b,v)))∧Pn W W') :
  Calls Tryz.prog 335 #[vl,.func (.func g) #[] #[cv]] w fun e w'=>e=.returned (.int .i64 (fdT p l))∧Pn w w':=by
 have H:=Pe h;obtain⟨A,n,rfl,-,-,-⟩:=h;have HP:=Pe hp;obtain⟨q,hq⟩:=Pi (fdT p l);rw [hq];have HR:=Pe hq;clear hq hp;go_enter Tryz.func335,Tryz.ntmps335;go_wp2_with fail;go_loopw [8] (fun i wr=>∃k:Nat,i=.int .i64 k∧k≤l.length∧Hid (q=fdF p k (l.drop k))∧Hid (Pn w wr)) (fun i _=>l.length - (intOf i).toNat);case atStart=>exact⟨0,rfl,Nat.zero_le _,Pe Zi,Pe Pg⟩
 case round =>
  obtain⟨k,rfl,hk,hz,HB⟩:=hrel;by_cases hlt:k<l.length
  ·obtain⟨⟨t,a,b,v⟩,hf⟩:=Jah hlt
   obtain⟨c,o,rfl,hc,m0,m1,m2,m3⟩:=four_at (H.out.below HB.out) hf;have gk:(k:Int)<(l.length:Int):=Kd;have C:=Pe (HP.out k t a b v hf wr HB.out);cases hv:p (t,a,b,v) with
   | true =>
    rw [hv] at C;have R:=Pe (Jj7 hz.out hf hv);clear hz hf hc hv hlt HR HP;go_wp2_with fail;refine C.out.mono ?_;rintro e w1 ⟨rfl,b1⟩;have B1:Hid (Pn w w1):=HB.out.trans (b1.mono HB.out.size);clear b1 C;go_wp2_with fail;go_ret;exact⟨Jad R.out.symm,B1.out⟩
   | false =>
    rw [hv] at C;have N:=Pe (Jg4 hz.out hf hv);clear hz hf hc hv;go_wp2_with fail;refine C.out.mono ?_;rintro e w1 ⟨rfl,b1⟩;have B1:Hid (Pn w w1):=HB.out.trans (b1.mono HB.out.size);clear b1 C HB;go_wp2_with fail;go_roundw;case rel=>exact⟨k+1,Kg,Kd,N,B1⟩
    case measure=>exact Qz
  ·have R:=Pe (Jj8 hz.out Kd)
   have d:decide (k<l.length)=false:=Kb;clear hz hlt HR HP;go_wp2_with fail;go_ret;exact⟨Jad R.out.symm,HB.out⟩
theorem Jn6 (g:Nat) (cv:Value) (p:Fq→Bool) (ce:∀args W,(callFunc g args).run Tryz.prog W=.ok (.enter g args) W) (vl:Value) (l:List Fq) (hl:l.length≤5000) (w:World) (h:LstF w vl l)
  (hp:∀(k:Nat) (t a b v:Int),l[k]?=some (t,a,b,v)→∀W,Pn w W→Calls Tryz.prog g #[fqV t a b v,cv] W fun e W'=>e=.returned (.bool (p (t,a,b,v)))∧Pn W W') :
  Calls Tryz.prog 267 #[vl,.func (.func g) #[] #[cv]] w fun e w'=>e=.returned (.bool (l.any p))∧Pn w w':=by
 have C:=Pe (J3c g cv p ce vl l hl w h hp);have R:=Pe (J6y p l);generalize fdT p l=q at C R;clear hp;go_enter Tryz.func267,Tryz.ntmps267;go_wp2_with fail;refine C.out.mono ?_;rintro e w1 ⟨rfl,b1⟩;clear C;go_wp2_with fail;go_ret;exact⟨Jab R.out,b1⟩
theorem Jx8 (t a b v tr:Int) (bk:Nat) (w:World) (h:w.cell? ⟨bk,0,none⟩=some (.int .i64 tr)):Calls Tryz.prog 336 #[fqV t a b v,.pointer (some ⟨bk,0,none⟩)] w fun e w'=>e=.returned (.bool (decide (t=tr)))∧Pn w w':=by
 obtain⟨w7,hw7⟩:=Pi (w.alloc (boxF t a b v));obtain⟨b7,p0,p1,p2,p3,s7,c7⟩:=Jeb hw7;have m0:=(b7.cell (p:=⟨bk,0,none⟩) (World.block_lt_of_cell? _ _ h)).trans h;have B7:=Pe b7;have R:(t==tr)=decide (t=tr):=by rw [Bool.eq_iff_iff,beq_iff_eq,decide_eq_true_iff]
 have HR:=Pe R;clear b7 s7 c7 h R;go_enter Tryz.func336,Tryz.ntmps336;go_wp2_with fail;go_ret;exact⟨Jab HR.out,B7.out⟩
theorem Jsv (vl:Value) (l:List Fq) (hl:l.length≤5000) (tr:Int) (w:World) (h:LstF w vl l):Calls Tryz.prog 271 #[vl,.int .i64 tr] w fun e w'=>e=.returned (.bool (repF tr l))∧Pn w w':=by
 obtain⟨w1,hw1⟩:=Pi (w.alloc (.cells #[.int .i64 tr] 3 (0,0)));have b1:Pn w w1:=Zl;have c1:w1.cell? ⟨w.heap.size,0,none⟩=some (.int .i64 tr):=by rw [←hw1,cell_of_row _ _ 0 _ _ _ (heap_alloc_new _ _)];rfl
 have C:=Pe (Jn6 336 (.pointer (some ⟨w.heap.size,0,none⟩)) (fun f=>decide (f.1=tr)) (Jb8 Tryz.func336 Kk Kk) vl l hl w1 (h.below b1)
  (fun k t a b v _ W hW=>Jx8 t a b v tr w.heap.size W ((hW.cell (p:=⟨w.heap.size,0,none⟩) (World.block_lt_of_cell? _ _ c1)).trans c1)))
 have B1:=Pe b1;clear b1 c1 h;go_enter Tryz.func271,Tryz.ntmps271;go_wp2_with fail;refine C.out.mono ?_;rintro e w2 ⟨rfl,b2⟩;have B2:Hid (Pn w w2):=B1.out.trans (b2.mono B1.out.size);clear b2 C;go_wp2_with fail;go_ret;exact⟨rfl,B2.out⟩
end Go.Proofs.YtpifdbphmnifdaaGreatDoor
