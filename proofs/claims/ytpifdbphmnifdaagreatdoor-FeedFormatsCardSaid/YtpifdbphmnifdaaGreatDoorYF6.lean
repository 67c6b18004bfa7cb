/-
  Facts. Condition: each theorem's own.
-/
import Derived.Test.YtpifdbphmnifdaaGreatDoorYF5
set_option maxRecDepth 100000
set_option maxHeartbeats 8000000
section
variable {p:Prop}
theorem Zp(h:p:=by rw[<-hw1];exact(Below.refl _ _).alloc Ph _):p:=h
end
open Go.Proofs.Tryz
namespace Go.Proofs.YtpifdbphmnifdaaGreatDoor
section
open Go.RowKit
theorem J9r:(prog.info? 118).map (fun i=>(i.zero,i.size,i.bytes))=some (some (.agg #[.int .i64 0,.int .i64 0,.int .i64 0,.int .i64 0]),4,32):=Kl
theorem Jyu:∀w,(Go.sizeOf 118).run prog w=.ok 4 w:=fun w=>by
 obtain⟨i,hi,_,hsz,_⟩:=info_parts J9r;simp[sizeOf,typeInfo,hi,hsz]
theorem Jko:prog.elem 28=118:=by simp[Program.elem,underlying28]
theorem Jqu:prog.underlying 28=some (.slice (prog.elem 28)):=by rw[Jko];exact underlying28
theorem Jtb{w:World}{vl:Value}{l:List Fq}(h:LstF w vl l)(j:Nat)(hj:j<=l.length)(_:l.length<=9223372036854775807)(x:Int)(hx:x=j):∃u,(∀W,(Instr.slice 28 vl none (some (.int .i64 x)) none).run prog W=.ok u W)/\LstF w u (l.take j):=by
 subst hx;have H:=h;obtain⟨A,c,rfl,hc,-,-⟩:=h;refine⟨sliced A 0 j c 4,fun W=>?_,?_⟩
 ·rw[run_slice_h W 28 A l.length c Jqu .i64 j Ka Ka,Jko,Jyu]
  rfl
 ·have:=LstG.part fe_len H 0 j c (Nat.zero_le _) hj Ka Ph
  exact Zj
theorem Jcg{P:Program}{K:FuncId}{fn:Func}(hf:P.funcs[K]?=some fn)(hn:(fn.name=="runtime.NumGoroutine")=false)(hb:fn.body.isNone=false):∀args W,(callFunc K args).run P W=.ok (.enter K args) W:=by
 intro args W;unfold callFunc;simp at hn;simp[hf,hn];intro h0;rw[h0] at hb;cases hb
theorem J7o{α:Type}(p:α->Bool)(l:List α):decide (0<=fdT p l)=l.any p:=by
 cases h:l.any p with
 | true =>
  obtain⟨x,hx,hp⟩:=List.any_eq_true.1 h;refine Pk ?_;rcases Jlt p l with h1 | h1
  ·exfalso
   have:∀(r:List α) (k:Nat),fdF p k r=-1->∀z∈r,p z=false:=by
    intro r;induction r with
    | nil=>intro k _ z hz;cases hz
    | cons y r ih =>
     intro k hk z hz;unfold fdF at hk;split at hk
     ·omega
     ·next hy =>
      rcases List.mem_cons.1 hz with rfl | hz
      ·exact Bool.eq_false_iff.2 hy
      ·exact ih _ hk z hz
   have:=this l 0 h1 x hx;rw[hp] at this;cases this
  ·exact h1.1
 | false =>
  refine Pj fun h0=>?_
  obtain⟨j,x,hx,hp,-⟩:=J7c (p:=p) (l:=l) Ka;rw[List.any_eq_false] at h;exact h x (List.mem_iff_getElem?.2 ⟨j,hx⟩) hp
theorem J33(g:Nat)(cv:Value)(p:Fq->Bool)(ce:∀args W,(callFunc g args).run prog W=.ok (.enter g args) W)(vl:Value)(l:List Fq)(hl:l.length<=5000)(w:World)(h:LstF w vl l)
  (hp:∀(k:Nat) (t a b v:Int),l[k]?=some (t,a,b,v)->∀W,Po w W->Calls prog g #[fqV t a b v,cv] W fun e W'=>e=.returned (.bool (p (t,a,b,v)))/\Po W W') :
  Pc 335 #[vl,.func (.func g) #[] #[cv]] w (.int .i64 (fdT p l)):=by
 have H:=Pe h;obtain⟨A,n,rfl,-,-,-⟩:=h;have HP:=Pe hp;obtain⟨q,hq⟩:=Pi (fdT p l);rw[hq];have HR:=Pe hq;clear hq hp;go_enter func335,ntmps335;go_wp2_with fail;go_loopw [8] (fun i wr=>∃k:Nat,i=.int .i64 k/\k<=l.length/\Hid (q=fdF p k (l.drop k))/\Hid (Po w wr)) (fun i _=>l.length - (intOf i).toNat);case atStart=>exact⟨0,rfl,Nat.zero_le _,Pe Zk,Pe Pg⟩
 case round =>
  obtain⟨k,rfl,hk,hz,HB⟩:=hrel;by_cases hlt:k<l.length
  ·obtain⟨⟨t,a,b,v⟩,hf⟩:=Jah hlt
   obtain⟨c,o,rfl,hc,m0,m1,m2,m3⟩:=four_at (H.out.below HB.out) hf;have gk:(k:Int)<(l.length:Int):=Ka;have C:=Pe (HP.out k t a b v hf wr HB.out);cases hv:p (t,a,b,v) with
   | true =>
    rw[hv] at C;have R:=Pe (Jka hz.out hf hv);clear hz hf hc hv hlt HR HP;go_wp2_with fail;refine C.out.mono ?_;rintro e w1 ⟨rfl,b1⟩;have B1:Hid (Po w w1):=HB.out.trans (b1.mono HB.out.size);clear b1 C;go_wp2_with fail;go_ret;exact⟨Jad R.out.symm,B1.out⟩
   | false =>
    rw[hv] at C;have N:=Pe (Jg7 hz.out hf hv);clear hz hf hc hv;go_wp2_with fail;refine C.out.mono ?_;rintro e w1 ⟨rfl,b1⟩;have B1:Hid (Po w w1):=HB.out.trans (b1.mono HB.out.size);clear b1 C HB;go_wp2_with fail;go_roundw;case rel=>exact⟨k+1,Kj,Ka,N,B1⟩
    case measure=>exact Q7
  ·have R:=Pe (Jkb hz.out Ka)
   have d:decide (k<l.length)=false:=Kg;clear hz hlt HR HP;go_wp2_with fail;go_ret;exact⟨Jad R.out.symm,HB.out⟩
theorem Joo(g:Nat)(cv:Value)(p:Fq->Bool)(ce:∀args W,(callFunc g args).run prog W=.ok (.enter g args) W)(vl:Value)(l:List Fq)(hl:l.length<=5000)(w:World)(h:LstF w vl l)
  (hp:∀(k:Nat) (t a b v:Int),l[k]?=some (t,a,b,v)->∀W,Po w W->Calls prog g #[fqV t a b v,cv] W fun e W'=>e=.returned (.bool (p (t,a,b,v)))/\Po W W') :
  Pc 267 #[vl,.func (.func g) #[] #[cv]] w (.bool (l.any p)):=by
 have C:=Pe (J33 g cv p ce vl l hl w h hp);have R:=Pe (J7o p l);generalize fdT p l=q at C R;clear hp;go_enter func267,ntmps267;go_wp2_with fail;refine C.out.mono ?_;rintro e w1 ⟨rfl,b1⟩;clear C;go_wp2_with fail;go_ret;exact⟨Jac R.out,b1⟩
theorem Jyv(t a b v tr:Int)(bk:Nat)(w:World)(h:w.cell? ⟨bk,0,none⟩=some (.int .i64 tr)):Pc 336 #[fqV t a b v,.pointer (some ⟨bk,0,none⟩)] w (.bool (decide (t=tr))):=by
 obtain⟨w7,hw7⟩:=Pi (w.alloc (boxF t a b v));obtain⟨b7,p0,p1,p2,p3,s7,c7⟩:=Jd8 hw7;have m0:=(b7.cell (p:=⟨bk,0,none⟩) (World.block_lt_of_cell? _ _ h)).trans h;have B7:=Pe b7;have R:(t==tr)=decide (t=tr):=by rw[Bool.eq_iff_iff,beq_iff_eq,decide_eq_true_iff]
 have HR:=Pe R;clear b7 s7 c7 h R;go_enter func336,ntmps336;go_wp2_with fail;go_ret;exact⟨Jac HR.out,B7.out⟩
theorem Jtc(vl:Value)(l:List Fq)(hl:l.length<=5000)(tr:Int)(w:World)(h:LstF w vl l):Pc 271 #[vl,.int .i64 tr] w (.bool (repF tr l)):=by
 obtain⟨w1,hw1⟩:=Pi (w.alloc (.cells #[.int .i64 tr] 3 (0,0)));have b1:Po w w1:=Zp;have c1:w1.cell? ⟨w.heap.size,0,none⟩=some (.int .i64 tr):=by rw[<-hw1,cell_of_row _ _ 0 _ _ _ (heap_alloc_new _ _)];rfl
 have C:=Pe (Joo 336 (.pointer (some ⟨w.heap.size,0,none⟩)) (fun f=>decide (f.1=tr)) (Jcg func336 Kl Kl) vl l hl w1 (h.below b1)
  (fun k t a b v _ W hW=>Jyv t a b v tr w.heap.size W ((hW.cell (p:=⟨w.heap.size,0,none⟩) (World.block_lt_of_cell? _ _ c1)).trans c1)))
 have B1:=Pe b1;clear b1 c1 h;go_enter func271,ntmps271;go_wp2_with fail;refine C.out.mono ?_;rintro e w2 ⟨rfl,b2⟩;have B2:Hid (Po w w2):=B1.out.trans (b2.mono B1.out.size);clear b2 C;go_wp2_with fail;go_ret;exact⟨rfl,B2.out⟩
end
end Go.Proofs.YtpifdbphmnifdaaGreatDoor
