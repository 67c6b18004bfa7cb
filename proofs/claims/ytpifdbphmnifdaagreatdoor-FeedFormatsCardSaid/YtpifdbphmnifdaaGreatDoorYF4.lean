/-
  Facts. Condition: each theorem's own.
-/
import Derived.RangeFuncNested
import Derived.RangeFuncBound
import Derived.RangeFuncCalls
import Derived.RangeFuncLeaves
import Derived.Shelf.Abstract
import Derived.Shelf.RegionOpen
import Derived.OwnWalkIn
import Derived.TacticsInMore
import Derived.LoopNIn
import Derived.LoopIn
import Derived.Maps.AppendAt
import Derived.ScopeJumps
import Derived.RangeFuncBox
import Derived.RowKit
import Derived.Test.YtpifdbphmnifdaaGreatDoorYF2
import Derived.Test.YtpifdbphmnifdaaGreatDoorYF3
set_option maxRecDepth 100000
set_option maxHeartbeats 8000000
section
variable {p:Prop}
theorem Jj(h:p:=by rw[cell_of_row _ _ 1 _ _ _ h];rfl):p:=h
theorem Jk(h:p:=by rw[cell_of_row _ _ 0 _ _ _ h];rfl):p:=h
theorem Jl(h:p:=by go_wp2_with fail;rw[Exit.noGoto_ret];go_ret2;exact⟨ret_chk (by rw[R.out];rfl) (by rw[R.out];rfl),rfl⟩):p:=h
theorem Jm(h:p:=by rw[cell_of_row _ _ 3 _ _ _ h];rfl):p:=h
theorem Jn(h:p:=by rw[cell_of_row _ _ 2 _ _ _ h];rfl):p:=h
theorem Jo(h:p:=by exact⟨(Below.refl _ _).alloc Ph _,by rw[cell_of_row _ _ 0 _ _ _ c7];rfl,by rw[cell_of_row _ _ 1 _ _ _ c7];rfl,by rw[cell_of_row _ _ 2 _ _ _ c7];rfl,by rw[cell_of_row _ _ 3 _ _ _ c7];rfl,by rw[cell_of_row _ _ 4 _ _ _ c7];rfl,Ke⟩):p:=h
theorem Jp(h:p:=by rw[Pr,List.length_take];omega):p:=h
theorem Jq(h:p:=by rw[cell_of_row _ _ 4 _ _ _ h];rfl):p:=h
theorem Jr(h:p:=by go_wp2_with fail;go_ret2;exact⟨rfl,Pg⟩):p:=h
theorem Js(h:p:=by exact⟨rfl,Pg⟩):p:=h
theorem Jt(h:p:=by rw[R.out];rfl):p:=h
theorem Ju(h:p:=by show _=_;rw[E.out,hcut];rfl):p:=h
theorem Jv(h:p:=by simp[Program.elem,hT]):p:=h
theorem Jw(h:p:=by rintro D c pre W _ _ h _;exact h.elim):p:=h
theorem Jy(h:p:=by simp[Function.comp_def]):p:=h
theorem Jz(h:p:=by simp[Program.arrayLen,hT]):p:=h
end
open Go.Proofs.Tryz
namespace Go.Proofs.YtpifdbphmnifdaaGreatDoor
namespace S15
open Go.RowKit
attribute [local go_sem] Oper.semAt_some
variable {w:World} {s:ByteArray} {n m:Nat}
theorem Jx2{l:Nat}{J J':Act->World->Prop}{Q:Exit->Act->World->Prop}(h:∀a w,J a w->J' a w):∀e a w,Exit.jump l J Q e a w->Exit.jump l J' Q e a w
 | .goto _,_,_,⟨h1,h2⟩=>⟨h1,h _ _ h2⟩
 | .normal,_,_,h1=>h1
 | .exit _,_,_,h1=>h1
 | .ret,_,_,h1=>h1
 | .panic _,_,_,h1=>h1
 | .outgrown,_,_,h1=>h1
theorem Jvd{P:Program}{a:Act}{Q:Exit->Act->World->Prop}{c rest:Code}(n l:Nat)(J:Act->World->Prop)(μ:Act->World->Nat)(hf:findLabel c l=some (Code.skip.seq rest))
  (first:(∀a w,J a w->rest.wpIn Fence.wide n P (Exit.jump l J Q) a w)->c.wpIn Fence.wide n P (Exit.jump l J Q) a w)
  (pass:∀a w,J a w->rest.wpIn Fence.wide n P (Exit.jump l (fun a' w'=>J a' w'/\μ a' w'<μ a w) Q) a w):(Code.scope c).wpIn Fence.wide n P Q a w :=
 wpIn_wide.2 (wp_scope_jumps l J μ hf (wpIn_wide.1 (first fun a w h=>wpIn_mono (pass a w h) (Jx2 fun _ _ h=>h.1))) fun a w h=>wpIn_wide.1 (wpIn_seq (wpIn_skip (pass a w h))))
theorem Jn8{n₀:Nat}{w':World}(hg:Good w)(hlt:6<n₀)(hb:Below n₀ w w'):Good w':=var?_below hb gTab hlt hg
def AllJ(yv:Value)(b n₀ s:Nat)(w0:World)(J:List Nat->World->Prop)(a':Act)(W':World):Prop :=
 ∃(pre:List Nat) (r:Nat) (u4 u5 u6 u7 u8 u9 u10 u11 u12 u13 u14 u15 u16 u17 u18 u19 u20 u21 u22 u23:Value),a'={ tmps:=#[yv,.pointer (some ⟨b,0,none⟩),undef,.int .u64 (r:Int),u4,u5,u6,u7,u8,u9,u10,u11,u12,u13,u14,u15,u16,u17,u18,u19,u20,u21,u22,u23],defers:=[] }/\W64 r/\Hid (elems s=pre++elems r)/\Hid (J pre W')/\Hid (Below n₀ w0 W')
def Qc0(a':Act):Nat:=(elems (intOf (a'.tmps.getD 3 undef)).toNat).length
theorem J3q{r:Nat}(hr:W64 r)(h0:r≠0):elems r=minB r::elems (delB r (minB r))/\bits BinOp.and IntKind.u64 (r:Int) (((r - 1:Nat)):Int)=((delB r (minB r):Nat):Int)/\W64 (delB r (minB r)):=by
 obtain⟨h1,h2,h3⟩:=J9d hr h0;refine⟨Jw6 h1 h2 h3,?_,Nat.lt_of_le_of_lt (Qcs _ _) hr⟩;rw[bits_and_u64_nat r (r - 1) hr (by unfold W64 at hr;omega),Jw5 h2 h3]
theorem J3r(s:Nat)(hs:W64 s)(n b n₀:Nat)(hn:1<=n)(w0:World)(hc:w0.cell? ⟨b,0,none⟩=some (.int .u64 (s:Int)))(hg:Good w0)(hlt:6<n₀)(hle:n₀<=w0.heap.size)
  (l:Nat) (J Jx:List Nat->World->Prop) (W:World) (hW:Po w0 W)
  (hY:∀(pre:List Nat) (x:Nat) W1,J pre W1->pre.length<64->pre++[x] <+: elems s->YieldAt Fence.wide (n - 1) prog l #[.int .i64 ((x:Nat):Int)] W1 fun e W'=>(e=.returned (.bool true)/\J (pre++[x]) W'/\Below n₀ W1 W')\/(e=.returned (.bool false)/\Jx (pre++[x]) W')) (h0:J [] W) :
  CallsIn Fence.wide n prog 305 #[.func (.yield l) #[] #[],.pointer (some ⟨b,0,none⟩)] W fun e W'=>(∃v,e=.returned v)/\((∃xs,xs=elems s/\J xs W')\/(∃pre,pre <+: elems s/\Jx pre W')):=by
 refine callsIn_of_wp func305 rfl trivial ?_ rfl;simp only[ntmps305,List.size_toArray,List.length_cons,List.length_nil,Nat.reduceAdd,Nat.reduceSub,Array.replicate_succ,Array.replicate_zero,List.push_toArray,List.append_toArray,List.nil_append,List.cons_append];have hb:b<w0.heap.size:=World.block_lt_of_cell? _ _ hc;have hcW:=(hW.cell (p:=⟨b,0,none⟩) hb).trans hc;have HY:=Pe hY;have HG:=Pe hg;have HW:=Pe (hW.mono hle);have H0:=Pe h0;clear hc hY hg hW h0;gi_wp2;refine Jvd n 0 (AllJ (.func (.yield l) #[] #[]) b n₀ s w0 J) (fun a' _=>Qc0 a') rfl ?_ ?_
 ·intro again
  have AG:=Pe again;clear again;gi_wp2;refine wpIn_label ?_;simp only[Exit.then];rename_i K hK;refine hK _ _ (AG.out _ _ ?_);exact⟨[],s,_,_,_,_,_,_,_,_,_,_,_,_,_,_,_,_,_,_,_,_,rfl,hs,Pe rfl,H0,HW⟩
 ·rintro a' W' ⟨pre,r,u4,u5,u6,u7,u8,u9,u10,u11,u12,u13,u14,u15,u16,u17,u18,u19,u20,u21,u22,u23,rfl,hr,hel,hJ,hB⟩
  have M:=Pe (J9c r hr W' (Jn8 HG.out hlt hB.out));by_cases h0:r=0
  ·subst h0
   have E:=Pe (show elems s=pre by rw[hel.out,Ju0,List.append_nil]);gi_wp2_with (refine⟨trivial,?_⟩;gi_at_call 306;refine(callsIn_wide.2 M.out).mono ?_;rintro e w' ⟨rfl,rfl⟩);refine⟨fun _ h=>Qi,?_⟩;gi_wp2;simp only[Exit.jump];refine bodyPost_ret (results_none rfl _ _ _) rfl ?_;exact⟨⟨_,rfl⟩,.inl ⟨pre,E.out.symm,hJ.out⟩⟩
  ·obtain⟨e1,e2,e3⟩:=J3q hr h0
   have E:=Pe (show elems s=pre++[minB r]++elems (delB r (minB r)) by rw[hel.out,e1,List.append_assoc];rfl);have L:=Pe (show(elems (delB r (minB r))).length<(elems r).length by rw[e1,List.length_cons];omega);have hlen:pre.length<64:=by
    have h1:=Jnn s;rw[hel.out,e1,Pq,List.length_cons] at h1;omega
   obtain⟨fn,tmps,assign,body,hy,hR⟩:=HY.out pre (minB r) W' hJ.out hlen ⟨_,E.out.symm⟩;have D:=Pe (show decide (r≠0)=true by simp[h0]);rw[D.out] at M;have e4:IntKind.u64.wrap ((r:Int) - 1)=((r - 1:Nat):Int):=by
    rw[IntKind.wrap_u64];unfold W64 at hr;omega
   have HR:=Pe hR;have K3:=Pe e3;clear e1 e3 hel hlen hR h0 HY;generalize minB r=m at M hy HR E L e2 K3;generalize delB r m=d at E L e2 K3;generalize ((r - 1:Nat):Int)=r1 at e2 e4;gi_wp2_with (refine⟨trivial,?_⟩;gi_at_call 306;refine(callsIn_wide.2 M.out).mono ?_;rintro e w' ⟨rfl,rfl⟩);refine HR.out.mono ?_;rintro e W3 (⟨rfl,hJ3,hk3⟩ | ⟨rfl,hJx3⟩)
   ·gi_wp2
    refine wpIn_goto ?_;refine⟨rfl,⟨pre++[m],d,_,_,_,_,_,_,_,_,_,_,_,_,_,_,_,_,_,_,_,_,rfl,K3.out,E,Pe hJ3,Pe (hB.out.trans hk3)⟩,?_⟩;have:=L.out;simpa [Qc0,intOf] using this
   ·gi_wp2
    simp only[Exit.jump];refine bodyPost_ret (results_none rfl _ _ _) rfl ?_;exact⟨⟨_,rfl⟩,.inr ⟨pre++[m],⟨elems d,E.out.symm⟩,hJx3⟩⟩
theorem Jn9(k:Nat)(s:Nat)(hs:W64 s)(hk:∀x∈elems s,x<k)(n b n₀:Nat)(hn:1<=n)(w0:World)(hc:w0.cell? ⟨b,0,none⟩=some (.int .u64 (s:Int)))(hg:Good w0)(hlt:6<n₀)(hle:n₀<=w0.heap.size):
  SeqStopsK Fence.wide n prog 305 #[.pointer (some ⟨b,0,none⟩)] (fun x:Fin k=>#[.int .i64 ((x.val:Nat):Int)]) (Below n₀) (fun xs=>xs.map (·.val)=elems s) (fun pre=>pre.map (·.val) <+: elems s) 64 w0:=fun l J Jx W hW _ _ hY h0=>by
 refine(J3r s hs n b n₀ hn w0 hc hg hlt hle l (fun pre W=>∃q:List (Fin k),q.map (·.val)=pre/\J q W) (fun pre W=>∃q:List (Fin k),q.map (·.val)=pre/\Jx q W) W hW ?_ ⟨[],rfl,h0⟩).mono ?_
 ·rintro pre x W1 ⟨q,rfl,hJ⟩ hl hp
  have hx:x<k:=hk x (by obtain⟨t,ht⟩:=hp;rw[<-ht];simp);refine(hY q ⟨x,hx⟩ W1 hJ (by simpa using hl)).mono ?_;rintro e W' (⟨h1,h2,h3⟩ | ⟨h1,h2⟩)
  ·exact .inl ⟨h1,⟨q++[⟨x,hx⟩],Ke,h2⟩,h3⟩
  ·exact .inr ⟨h1,q++[⟨x,hx⟩],Ke,h2⟩
 ·rintro e W' ⟨hv,⟨xs,hxs,q,hq,hJ⟩ | ⟨pre,hp,q,hq,hJ⟩⟩
  ·exact⟨hv,.inl ⟨q,hq.trans hxs,hJ⟩⟩
  ·exact⟨hv,.inr ⟨q,by show _ <+: _;rw[hq];exact hp,hJ⟩⟩
attribute [local go_sem] Oper.semAt_some
theorem J9e(s:Nat)(w:World):Calls prog 227 #[.int .u64 (s:Int)] w fun e w'=>e=.returned (.func (.func 305) #[] #[.pointer (some ⟨w.heap.size,0,none⟩)])/\w'=w.alloc (.cells #[.int .u64 (s:Int)] 226):=by
 go_enter func227,ntmps227;exact Kc
def re(x:Rt):List Value:=[.string (str x.1),.int .i64 x.2.1,.bool x.2.2]
theorem re_len(x:Rt):(re x).length=3:=rfl
abbrev LstR:=@LstG Rt re
theorem three_at{A:Option Addr}{c:Nat}{l:List Rt}(h:LstR w (.slice A n c) l){i:Nat}{id:List UInt8}{m:Int}{f:Bool}(hs:l[i]?=some (id,m,f)){s:ByteArray}(hst:str id=s):
  ∃b o,A=some ⟨b,o,none⟩/\b<w.heap.size/\w.cell? ⟨b,o+i*3,none⟩=some (.string s)/\w.cell? ⟨b,o+i*3+1,none⟩=some (.int .i64 m)/\w.cell? ⟨b,o+i*3+2,none⟩=some (.bool f):=by
 subst hst;obtain⟨A',c',hv,_,_,hx⟩:=h;cases hv;have hi:=(Pm hs).1;obtain⟨b,o,rfl,hb,hcell⟩:=hx Ka;refine⟨b,o,rfl,hb,hcell (i*3) _ (by rw[<-Nat.add_zero (i*3),Jbq re_len hs 0 Ka];rfl),(hcell (i*3+1) _ (by rw[Jbq re_len hs 1 Ka];rfl):_),(hcell (i*3+2) _ (by rw[Jbq re_len hs 2 Ka];rfl):_)⟩
abbrev boxR(s:ByteArray)(m:Int)(f:Bool):Obj:=.cells #[.string s,.int .i64 m,.bool f] 114 (0,0)
theorem J7h{w7:World}{m:Int}{f:Bool}(h:w.alloc (boxR s m f)=w7):
  Po w w7/\w7.cell? ⟨w.heap.size,0,none⟩=some (.string s)/\w7.cell? ⟨w.heap.size,1,none⟩=some (.int .i64 m)/\w7.cell? ⟨w.heap.size,2,none⟩=some (.bool f)/\w.heap.size<w7.heap.size:=by
 subst h;have c7:=heap_alloc_new w (boxR s m f);exact⟨(Below.refl _ _).alloc Ph _,Vl,Vk,Vj,Ke⟩
theorem Jx3{a b:Int}{c d:Bool}(h:a=b)(k:c=d):Ending.returned (.tuple #[.int .i64 a,.bool c])=.returned (.tuple #[.int .i64 b,.bool d]):=Qm
theorem ret_chk{a b c d:Int}(h:a=b)(k:c=d):Ending.returned (.tuple #[.int .i64 a,.int .i64 c])=.returned (.tuple #[.int .i64 b,.int .i64 d]):=Qm
theorem Jx4{a b:ByteArray}{c d:Int}(h:a=b)(k:c=d):Ending.returned (.tuple #[.string a,.int .i64 c])=.returned (.tuple #[.string b,.int .i64 d]):=Qm
theorem str_ne{id:List UInt8}{x:List UInt8}{t:ByteArray}(hs:str x=s)(ht:str id=t)(h:x≠id):s≠t:=by
 intro e;apply h;have e2:str x=str id:=Vy;exact Vi
def nmV:Array Value:=#[.string ⟨#[98,117,115]⟩,.string ⟨#[116,114,97,109]⟩,.string ⟨#[109,101,116,114,111]⟩,.string ⟨#[114,97,105,108]⟩,.string ⟨#[102,101,114,114,121]⟩,.string ⟨#[99,111,97,99,104]⟩,.string ⟨#[99,97,98,108,101]⟩,.string ⟨#[102,117,110,105,99,117,108,97,114]⟩]
theorem Jx5(m:Nat)(h:m<8):nmV[m]?=some (.string (str (nmR m))):=by
 match m,h with
 | 0,_=>rfl
 | 1,_=>rfl
 | 2,_=>rfl
 | 3,_=>rfl
 | 4,_=>rfl
 | 5,_=>rfl
 | 6,_=>rfl
 | 7,_=>rfl
def GoodR(w:World):Prop:=Good w/\w.var? prog "transit/route.names"=some nmV
theorem gNames:prog.globalNamed "transit/route.names"=some 1:=Kl
theorem GoodR.below{w':World}(h:GoodR w)(b:Po w w'):GoodR w':=⟨h.1.below b,var?_below b gNames (var_size gNames h.2) h.2⟩
theorem GoodR.name(h:GoodR w)(m:Nat)(hm:m<8):w.cell? ⟨1,m,none⟩=some (.string (str (nmR m))):=by
 rw[World.var?_cell gNames h.2 m];exact Jx5 m hm
theorem GoodR.row(h:GoodR w):∃t fr,w.heap[1]?=some (.cells nmV t fr):=by
 have h2:=h.2;simp only[World.var?,gNames,Option.bind_some] at h2;split at h2
 ·next c t fr hb=>cases h2;exact⟨t,fr,hb⟩
 ·cases h2
theorem J9f:(prog.info? 227).map (·.size)=some nmV.size:=Kl
theorem Jx6(B k:Nat)(hk:k<8)(W:World):(Instr.indexAt 227 (.pointer (some ⟨B,0,none⟩)) (.int .i64 (k:Int))).run prog W=.ok (.pointer (some ⟨B,k,none⟩)) W:=by
 have hT:=underlying227;have he:prog.elem 227=9:=Jv;have hl:prog.arrayLen 227=8:=Jz;rw[run_indexAt_array W 227 _ _ _ (by rw[he,hl];exact hT),hl,he,if_pos Ka];simp[sizeOf9,Addr.add];try exact fun h=>h.symm
theorem J3s(i:Int):hasB 255 i=decide (okM i):=by
 unfold hasB;rw[show(255:Nat)=2 ^ 8 - 1 by rfl,Nat.testBit_two_pow_sub_one,Bool.eq_iff_iff,Bool.and_eq_true,decide_eq_true_iff,decide_eq_true_iff,decide_eq_true_iff];unfold okM;omega
theorem Joa(i:Int)(w:World):Pb 221 #[.int .u64 255,.int .i64 i] w (.bool (decide (okM i))):=by
 have h:=J83 255 Kd i w;rw[J3s] at h;exact h
theorem Jx7(i:Int)(w:World):Pb 157 #[.int .i64 i] w (.bool (decide (okM i))):=by
 by_cases h0:0<=i
 ·by_cases h8:i<8
  ·have R:=Pe (show decide (okM i)=true from Pk ⟨h0,h8⟩)
   go_enter func157,ntmps157;exact Kf
  ·have R:=Pe (show decide (okM i)=false from Pj fun h=>h8 h.2)
   have d:decide (i<8)=false:=Pj h8;clear h8;go_enter func157,ntmps157;exact Kf
 ·have R:=Pe (show decide (okM i)=false from Pj fun h=>h0 h.1)
  have d:decide (0<=i)=false:=Pj h0;clear h0;go_enter func157,ntmps157;exact Kf
theorem name_any(m:Nat)(hm:m<8)(w:World)(hg:GoodR w):Pb 137 #[.int .i64 (m:Int)] w (.tuple #[.string (str (nmR m)),.bool true]):=by
 have ix:=fun W=>Jx6 1 m hm W
 have c:=hg.name m hm;have E:=Pe (fun W=>Joa (m:Int) W);rw[Pk (show okM (m:Int) from ⟨Ka,Ka⟩)] at E;generalize str (nmR m)=s at c |-;clear hg;go_enter func137,ntmps137;go_wp2_with fail;refine Pf (E.out _) ?_;exact V8
theorem J9g(k:Nat)(hk:k<8)(W:World):(Instr.index 227 (.agg nmV) (.int .i64 (k:Int))).run prog W=.ok (.string (str (nmR k))) W:=by
 have hT:=underlying227;have h:nmV[k]?=some (.string (str (nmR k))):=Jx5 k hk;have hn:(0:Int)<=(k:Int)/\(k:Int)<8:=Ka;simp[Instr.index,run_underlying hT,asIntOf,hn,h,go_sem];try exact fun h=>absurd h Ka
theorem parse_any(id:List UInt8)(t:ByteArray)(ht:str id=t)(w:World)(hg:GoodR w):Pb 252 #[.string t] w (.tuple #[.int .i64 (max (Jer id) 0),.bool (decide (0<=Jer id))]):=by
 have HT:=Pe ht;obtain⟨T,fr,hrow⟩:=hg.row;obtain⟨r,hr⟩:=Pi (Jer id);rw[hr];have HR:=Pe hr;clear hr ht hg;go_enter func252,ntmps252;go_wp2_with (refine wpList_load_row rfl 227 (.global 1) rfl 1 rfl T nmV fr _ hrow underlying227 rfl J9f ?_);clear hrow;go_loop [7] (fun i=>∃k:Nat,i=.int .i64 k/\k<=8/\Hid (Jer id=fdF (isN id) k (nmL.drop k))) (fun i=>8 - (intOf i).toNat);case atStart=>exact⟨0,rfl,Nat.zero_le _,Pe rfl⟩
 case round =>
  obtain⟨k,rfl,hk,hz⟩:=hrel;by_cases hlt:k<8
  ·have ix:=fun W=>J9g k hlt W
   have hx:=Qcu hlt;have gk:(k:Int)<8:=Ka;obtain⟨nm,hnm⟩:=Pi (str (nmR k));rw[hnm] at ix;by_cases he:nmR k=id
   ·have g:=Jcn (a:=nm) (b:=t) Vx
    have R:Hid (r=(k:Int)):=by
     show _=_
     rw[<-HR.out,Jka hz.out hx (Pk he)]
    clear hx hz hnm he hlt HR HT;go_wp2_with fail;go_ret2;exact⟨Jx3 (by rw[R.out,Int.max_eq_left Ka]) (by rw[R.out,Pk Ka]),rfl⟩
   ·have g:=Jcx (a:=nm) (b:=t) (str_ne hnm HT.out he)
    have N:=Pe (Jg7 hz.out hx (Pj he));clear hx hz hnm he;go_wp2_with fail;go_round;case rel=>exact⟨k+1,Kj,Ka,N⟩
    case measure=>exact Q7
  ·have R:Hid (r=-1):=by
    show _=_
    rw[<-HR.out,Jkb hz.out (by show 8<=k;omega)]
   have d:decide ((k:Int)<8)=false:=Q8;clear hz hlt HR HT;go_wp2_with fail;go_ret2;exact⟨Jx3 Jt Jt,rfl⟩
theorem rnames_any(w:World):Calls prog 61 #[] w fun e w'=>e=.returned (.slice (some ⟨w.heap.size,0,none⟩) 8 8)/\(∀k,k<8->w'.cell? ⟨w.heap.size,k,none⟩=some (.string (str (nmR k))))/\Po w w':=by
 obtain⟨w7,hw7⟩:=Pi (w.alloc (.cells nmV 9 (0,0)));have c7:=heap_alloc_new w (.cells nmV 9 (0,0));have C:Hid (∀k,k<8->w7.cell? ⟨w.heap.size,k,none⟩=some (.string (str (nmR k)))):=by
  intro k hk;rw[<-hw7,cell_of_row _ _ k _ _ _ c7];exact Jx5 k hk
 have B7:Hid (Po w w7):=by
  rw[<-hw7];exact(Below.refl _ _).alloc Ph _
 unfold nmV at hw7;clear c7;go_enter func61,ntmps61;go_wp2_with fail;go_ret;exact⟨rfl,C.out,B7.out⟩
theorem valid_all_any(s:ByteArray)(w:World):Pb 193 #[.string s] w (.bool (Jak s.data.toList)):=by
 by_cases hs:s.size<=1099511627776
 ·exact Jgf s hs w
 have e:=Jbo s Ka;have he:s.toList.isEmpty=false:=Vn;have g:(32:Int)<(s.size:Int):=Ka;clear hs;exact K6
theorem valid_small{id:List UInt8}(hs:str id=s)(hv:Jak id=true):s.size<=32:=by
 exact Vw
theorem Jve(id:List UInt8)(m:Int)(f:Bool)(s:ByteArray)(hs:str id=s)(b:Nat)(ls:List (List UInt8))(w:World)(hm:MapB w b ls):
  Pc 189 #[.agg #[.string s,.int .i64 m,.bool f],.map (some b)] w (.int .i64 (badR ls (id,m,f))):=by
 have hid:s.data.toList=id:=Vv;obtain⟨w7,hw7⟩:=Pi (w.alloc (.cells #[.string s,.int .i64 m,.bool f] 114 (0,0)));obtain⟨b7,p0,p1,p2,-⟩:=J7h hw7;have V:=Pe (valid_all_any s w7);rw[hid] at V;have B7:=Pe b7;cases hv:Jak id with
 | false =>
  have R:=Pe (Jiy (seen:=ls) (x:=(id,m,f)) hv);rw[hv] at V;clear hv b7 hm hid hs;go_enter func189,ntmps189;go_wp2_with fail;refine Pf V.out ?_;exact Vd
 | true =>
  have lk:=(hm.below b7).look s id hid (by have:=valid_small hs hv;omega);rw[hv] at V;clear b7 hm hid hs;by_cases hd:id∈ls
  ·have R:=Pe (Jkc (x:=(id,m,f)) hv hd)
   rw[Pk hd] at lk;clear hv hd;go_enter func189,ntmps189;go_wp2_with fail;refine Pf V.out ?_;exact Vd
  ·rw[Pj hd] at lk
   have E:=Pe (fun W=>Joa m W);by_cases h1:okM m
   ·have R:=Pe (Jnx (x:=(id,m,f)) hv hd h1)
    rw[Pk h1] at E;clear hv hd h1;go_enter func189,ntmps189;go_wp2_with fail;refine Pf V.out ?_;go_wp2_with fail;refine Pf (E.out _) ?_;exact Vd
   ·have R:=Pe (Jnw (x:=(id,m,f)) hv hd h1)
    rw[Pj h1] at E;clear hv hd h1;go_enter func189,ntmps189;go_wp2_with fail;refine Pf V.out ?_;go_wp2_with fail;refine Pf (E.out _) ?_;exact Vd
theorem kcheck_any(v:Value)(l:List Rt)(hl:l.length<=9223372036854775807)(w:World)(h:LstR w v l):Pc 99 #[v] w (.tuple #[.int .i64 ((chkR l).1),.int .i64 ((chkR l).2)]):=by
 have H:=Pe h;obtain⟨A,c,rfl,-,-,-⟩:=h;by_cases h64:64<l.length
 ·have R:=Pe (Jny h64)
  have g:(64:Int)<(l.length:Int):=Ka;generalize chkR l=q at R |-;clear h64;go_enter func99,ntmps99;exact Vc
 have g:decide ((64:Int)<(l.length:Int))=false:=Q8;have ST:=Pe (Jkd (l:=l) Ka);have h64':l.length<=64:=Ka;have hmm:=@run_makeMap prog;obtain⟨q,hq⟩:=Pi (chkR l);rw[hq];have HQ:=Pe hq;clear h64 hq;go_enter func99,ntmps99;go_wp2_with fail;go_loopw [14] (fun i wr=>∃k:Nat,i=.int .i64 k/\k<=l.length/\Hid (chkR l=fbF badR idR ((l.take k).map idR) k (l.drop k))/\Hid (MapB wr w.heap.size ((l.take k).map idR))/\Hid (Po w wr)) (fun i _=>l.length - (intOf i).toNat);case atStart=>exact⟨0,rfl,Nat.zero_le _,ST,Pe (MapB.made w),Pe ((Below.refl _ _).alloc Ph _)⟩
 case round =>
  clear g ST hmm;obtain⟨k,rfl,hk,hz,HM,HB⟩:=hrel;by_cases hlt:k<l.length
  ·obtain⟨⟨id,m,f⟩,hx⟩:=Jah hlt
   obtain⟨nm,hnm⟩:=Pi (str id);obtain⟨b,o,rfl,hb,r0,r1,r2⟩:=three_at (H.out.below HB.out) hx hnm;have gk:(k:Int)<(l.length:Int):=Ka;obtain⟨w7,hw7⟩:=Pi (wr.alloc (.cells #[.string nm,.int .i64 m,.bool f] 114 (0,0)));obtain⟨b7,p0,p1,p2,s7⟩:=J7h hw7;have B7:Hid (Po w w7):=HB.out.trans (b7.mono HB.out.size);have M7:=Pe (HM.out.below b7);have C:=Pe (Jve id m f nm hnm w.heap.size ((l.take k).map idR) w7 M7.out);by_cases he:badR ((l.take k).map idR) (id,m,f)=0
   ·have N:=Pe (Jcd hz.out hx he)
    have T:=Pe (Jeq (key:=idR) hx);have hil:((l.take k).map idR).length<=64:=Jp;have hid:Hid (nm.data.toList=id):=Vu;have hsz:=valid_small hnm (Ju5 he);rw[he] at C;simp only[idR] at T;clear hx hz HB HM b7 hnm hb he;go_wp2_with fail;refine C.out.mono ?_;rintro e w8 ⟨rfl,b8⟩;have q0:=(b8.cell (p:=⟨wr.heap.size,0,none⟩) s7).trans p0;have B8:Hid (Po w w8):=B7.out.trans (b8.mono B7.out.size);have M8:=Pe (M7.out.below b8);clear b8 p0 p1 p2 B7 M7 C;go_wp2_with (at_mapUpdate;refine Jgd _ rfl _ _ _ rfl w.heap.size ((l.take k).map idR) rfl M8.out nm id hid.out Ka rfl rfl Ka ?_;intro w9 m9 g9);have M:Hid (MapB w9 w.heap.size ((l.take (k+1)).map idR)):=by
     show MapB _ _ _
     rw[T.out];exact m9
    have B:Hid (Po w w9):=B8.out.grown g9 B8.out.size (fun j hj=>Vh);clear m9 g9 M8 B8;go_wp2_with fail;go_roundw;case rel=>exact⟨k+1,Kj,Ka,N,M,B⟩
    case measure=>exact Q7
   ·have R:=Pe (Jal hz.out hx rfl he)
    have ne:=Jaf he;generalize badR ((l.take k).map idR) (id,m,f)=y at C R ne;clear hx hz HB HM b7 hnm hb he;go_wp2_with fail;refine C.out.mono ?_;rintro e w8 ⟨rfl,b8⟩;have B8:Hid (Po w w8):=B7.out.trans (b8.mono B7.out.size);clear b8 B7 C p0 p1 p2;go_wp2_with fail;go_ret2;exact⟨ret_chk Vf Vf,B8.out⟩
  ·have R:=Pe (Jce hz.out Ka)
   have d:decide (k<l.length)=false:=Kg;exact Vt
theorem rcheck_any(v:Value)(l:List Rt)(hl:l.length<=9223372036854775807)(w:World)(h:LstR w v l):Calls prog 69 #[v] w fun e w'=>e=.returned (.tuple #[.int .i64 ((chkR l).1),.int .i64 ((chkR l).2)])/\∃m,w'=w.drewN m:=by
 have H:=Pe h;obtain⟨A,c,rfl,-,-,-⟩:=h;by_cases h64:64<l.length
 ·have R:=Pe (Jny h64)
  have g:(64:Int)<(l.length:Int):=Ka;generalize chkR l=q at R |-;clear h64;go_enter func69,ntmps69;exact Jc
 have g:decide ((64:Int)<(l.length:Int))=false:=Q8;have ST:=Pe (Jkd (l:=l) Ka);have h64':l.length<=64:=Ka;generalize chkR l=q at ST |-;clear h64;go_enter func69,ntmps69;go_wp2_with fail;go_loopw [4] (fun i wr=>∃k:Nat,i=.int .i64 k/\k<=l.length/\Hid (q=fbF badR idR ((l.take k).map idR) k (l.drop k))/\Hid (∃n,wr=w.drewN n)) (fun i _=>l.length - (intOf i).toNat);case atStart=>exact⟨0,rfl,Nat.zero_le _,ST,Pe ⟨0,rfl⟩⟩
 case round =>
  clear g ST;obtain⟨k,rfl,hk,hz,hn⟩:=hrel;by_cases hlt:k<l.length
  ·obtain⟨⟨id,m,f⟩,hx⟩:=Jah hlt
   obtain⟨nm,hnm⟩:=Pi (str id);obtain⟨b,o,rfl,hb,r0,r1,-⟩:=three_at (H.out.below (Jar hn.out)) hx hnm;have gk:(k:Int)<(l.length:Int):=Ka;have hid:nm.data.toList=id:=Vs;have V:=Pe (fun W=>Jgj nm W);rw[hid] at V;cases hv:Jak id with
   | false =>
    have R:=Pe (Jal hz.out hx (Jiy (seen:=(l.take k).map idR) (x:=(id,m,f)) hv) Kd);rw[hv] at V;clear hx hz hnm hb hid hv r1;go_wp2_with fail;refine Pf (V.out _) ?_;exact V5
   | true =>
    rw[hv] at V;have HX:=Pe hx;have HNM:=Pe hnm;have HV:=Pe hv;clear hx hid hv hnm hb r1;go_wp2_with fail;refine Pf (V.out _) ?_;clear V r0;go_wp2_with fail;go_loopw [5] (fun i wr=>∃j:Nat,i=.int .i64 j/\j<=k/\Hid (∀(t':Nat) (x:Rt),t'<j->l[t']?=some x->idR x≠id)/\Hid (∃n,wr=w.drewN n)) (fun i _=>k - (intOf i).toNat);case atStart=>exact⟨0,rfl,Nat.zero_le _,Pe (fun t' x ht=>absurd ht (Nat.not_lt_zero _)),hn⟩
    case round =>
     clear hn;obtain⟨j,rfl,hj,hall,hn⟩:=hrel;by_cases hjk:j<k
     ·obtain⟨⟨id2,m2,f2⟩,hy⟩:=Jah (show j<l.length by omega)
      obtain⟨nm2,hnm2⟩:=Pi (str id2);obtain⟨b1,o1,e1,hb1,r0,-,-⟩:=three_at (H.out.below (Jar hn.out)) HX.out HNM.out;obtain⟨b2,o2,e2,hb2,s0,-,-⟩:=three_at (H.out.below (Jar hn.out)) hy hnm2;cases e1;cases e2
      have gj:(j:Int)<(l.length:Int):=Ka;have gj2:(j:Int)<(k:Int):=Ka;by_cases hid:id2=id
      ·have R:=Pe (Jal hz.out HX.out (Jkc (seen:=(l.take k).map idR) (x:=(id,m,f)) HV.out (Jdk hjk hy hid)) Kd)
       have eb:=Jcn (show nm2=nm by rw[<-hnm2,<-HNM.out,hid]);clear hz hy hnm2 hb1 hb2 hid hall HX HNM HV;go_wp2_with fail;go_quiet (fail);exact V6
      ·have N:Hid (∀(t':Nat) (x:Rt),t'<j+1->l[t']?=some x->idR x≠id):=by
        intro t' x ht hx;by_cases e:t'=j
        ·subst e
         exact Je
        ·exact hall.out t' x Ka hx
       have eb:=Jcx (str_ne hnm2 HNM.out hid);clear hy hnm2 hb1 hb2 hid hall;go_wp2_with fail;go_quiet (fail);go_wp2_with fail;go_roundw;case rel=>exact⟨j+1,Kj,Ka,N,Jb4 hn nq⟩
       case measure=>exact Q7
     ·have dj:decide (j<k)=false:=Ja
      have NM:id ∉ (l.take k).map idR:=Jcy fun t' x ht hx=>hall.out t' x Ka hx
      obtain⟨b1,o1,e1,hb1,-,r1,-⟩:=three_at (H.out.below (Jar hn.out)) HX.out HNM.out;cases e1;have RF:=Pe (fun hf=>Jal hz.out HX.out (Jnw (x:=(id,m,f)) HV.out NM hf) Kd);have RN:=Pe (fun hf=>Jcd hz.out HX.out (Jnx (x:=(id,m,f)) HV.out NM hf));simp only at RF RN;have M:=Pe (fun W=>Jx7 m W);clear hz hall NM hjk HX HNM HV hb1;by_cases h1:okM m
      ·have N:=Pe (RN.out h1)
       rw[Pk h1] at M;clear RF RN h1;go_wp2_with fail;refine Pf (M.out _) ?_;go_wp2_with fail;go_roundw;case rel=>exact⟨k+1,Kj,Ka,N,hn⟩
       case measure=>exact Q7
      ·have R:=Pe (RF.out h1)
       rw[Pj h1] at M;clear RF RN h1;go_wp2_with fail;refine Pf (M.out _) ?_;exact V5
  ·have R:=Pe (Jce hz.out Ka)
   have d:decide (k<l.length)=false:=Kg;clear hz hlt;exact V5
open Go.RowKit Go.ChangeShapes Go.WideShapes Go.Deep
theorem trod_route{H:Type}{enc:TypeId×Value->H}{W:World}{cs:List Value}{x:DataW H×List MemPlace}(h:DataW.trod enc prog W 0 (fun _=>true) true n 114 cs=some x):∃a:Rt,(-9223372036854775808<=a.2.1/\a.2.1<=9223372036854775807)/\cs=re a:=by
 obtain⟨y0,y1,y2,n,_,hl,h0,h1,h2⟩:=trod_struct3 underlying114 h;rw[show prog.cellsOf 114=3 by kernel_rfl] at hl;match cs,hl with
 | [c0,c1,c2],_ =>
  simp only[show prog.cellsOf 9=1 by kernel_rfl,show prog.cellsOf 3=1 by kernel_rfl,show prog.cellsOf 4=1 by kernel_rfl] at h0 h1 h2;obtain⟨s,e0,-⟩:=DataW.trod_string underlying9 h0;obtain⟨z,e1,_,w1⟩:=DataW.trod_int underlying3 h1;obtain⟨f,e2,-⟩:=DataW.trod_bool underlying4 h2;simp at e0 e1 e2;subst e0 e1 e2;refine⟨(s.data.toList,z,f),⟨Jb0 w1,Jbz w1⟩,?_⟩;unfold re;rw[Jaw]
theorem Job(n:Int):IntKind.u64.wrap n=((Jes n:Nat):Int):=by
 rw[IntKind.wrap_u64,Jxl]
theorem Qc1(s i:Nat):(((s / 2 ^ i:Nat):Int) % 2==1)=s.testBit i:=by
 have h:=Jlm s i;cases ht:s.testBit i with
 | true =>
  have:=h.2 ht;exact Jag Ka
 | false =>
  have:¬s / 2 ^ i % 2=1:=fun e=>by rw[h.1 e] at ht;cases ht
  exact Jaa Ka
theorem J3t(n:Int)(i:Nat)(hi:i<8)(w:World):Pb 153 #[.int .i64 n,.int .i64 (i:Int)] w (.bool ((Jes n).testBit i)):=by
 have e1:=Job n;have e2:IntKind.u64.wrap (i:Int)=(i:Int):=by rw[IntKind.wrap_u64];omega
 have e3:((Jes n:Nat):Int) / 2 ^ i=((Jes n / 2 ^ i:Nat):Int):=by rw[Jlr];rfl
 have e4:=Qc1 (Jes n) i;generalize (Jes n).testBit i=r at e4 |-;generalize Jes n / 2 ^ i=q at e3 e4;generalize ((Jes n:Nat):Int)=x at e1 e3;go_enter func153,ntmps153;exact Kc
open Go.RowKit Go.Shelf
attribute [local go_sem] Oper.semAt_some
theorem Joc{s t:Nat}(hs:W64 s)(ht:W64 t):Jgg s t=0↔∀j,j<64->s.testBit j=true->t.testBit j=true:=by
 constructor
 ·intro h j hj hb
  have:=Jls s t ht j hj;rw[h,Nat.zero_testBit,hb,Bool.true_and] at this;cases hq:t.testBit j with
  | true=>rfl
  | false=>rw[hq] at this;cases this
 ·intro h
  refine Jw4 (Jxi hs) Kd fun j hj=>?_
  rw[Jls s t ht j hj,Nat.zero_testBit];cases hb:s.testBit j with
  | false=>rfl
  | true=>rw[h j hj hb];rfl
theorem Jha{s:Nat}(hs:W64 s):decide (Jgg s 255=0)=decide (s<256):=by
 rw[Bool.eq_iff_iff,decide_eq_true_iff,decide_eq_true_iff,Joc hs Kd];constructor
 ·intro h
  show s<2 ^ 8
  apply Nat.lt_pow_two_of_testBit
  intro j hj;rcases Nat.lt_or_ge j 64 with h2 | h2
  ·cases hb:s.testBit j with
   | false=>rfl
   | true =>
    have:=h j h2 hb;rw[show(255:Nat)=2 ^ 8 - 1 by rfl,Nat.testBit_two_pow_sub_one] at this;have:=of_decide_eq_true this;omega
  ·exact Jit hs h2
 ·intro h j _ hb
  rw[show(255:Nat)=2 ^ 8 - 1 by rfl,Nat.testBit_two_pow_sub_one];rcases Nat.lt_or_ge j 8 with h2 | h2
  ·exact Pk h2
  ·rw[Nat.testBit_lt_two_pow (Ps h (Nat.pow_le_pow_right Kd h2:2 ^ 8<=2 ^ j))] at hb
   cases hb
theorem Jvf{n:Int}(h1:-9223372036854775808<=n)(h2:n<=9223372036854775807):Jes n<256↔¬(n<0\/255<n):=by
 unfold Jes;omega
theorem J3u(n:Int)(h1:-9223372036854775808<=n)(h2:n<=9223372036854775807)(h:n<0\/255<n)(w:World):Pb 146 #[.int .i64 n] w (.tuple #[.string ⟨#[]⟩,.int .i64 2]):=by
 have e1:=Job n;have M:=Pe (fun W=>Jc5 (Jes n) 255 (Jxk n) Kd W);rw[Jha (Jxk n),Pj (show ¬Jes n<256 by rw[Jvf h1 h2];exact fun k=>k h)] at M;generalize ((Jes n:Nat):Int)=x at e1 M;clear h h1 h2;go_enter func146,ntmps146;go_wp2_with fail;refine Pf (M.out _) ?_;exact V8
theorem Jx8(w:World):Pb 146 #[.int .i64 0] w (.tuple #[.string (str Jlv),.int .i64 0]):=by
 have M:=Pe (fun W=>Jc5 0 255 Kd Kd W);rw[Jha Kd,Pk (show 0<256 by decide)] at M;go_enter func146,ntmps146;go_wp2_with fail;refine Pf (M.out _) ?_;exact V8
def nmsR(l:List Nat):List (List UInt8):=l.map nmR
theorem Jx9(l:List Nat):(nmsR l).length=l.length:=List.length_map _
theorem J3v(l:List Nat)(x:Nat):nmsR (l++[x])=nmsR l++[nmR x]:=by unfold nmsR;rw[List.map_append];rfl
theorem Jya(n:Nat)(hn:n<256)(h0:n≠0)(v:Value)(w:World)(h:Lst w v (nmsR (elems n))):Pc 133 #[v,.string ⟨#[43]⟩] w (.string (str (textR n))):=by
 have e:Lib.join (nmsR (elems n)) [43]=textR n:=Jke n hn h0;have hle:=Jnn n;have hx0:nmsR (elems n)≠[]:=fun h=>by
  have e2:=Jke n hn h0;unfold nmsR at h;rw[h] at e2;have:textR n≠[]:=J3e n hn;exact this e2.symm
 generalize hxs:nmsR (elems n)=xs at h e hx0;have hxl:xs.length<=64:=by rw[<-hxs,Jx9];exact hle
 obtain⟨A,c,rfl,⟨hc,-⟩,hcells⟩:=h;obtain⟨b,o,rfl,hb,hx⟩:=hcells (List.length_pos_iff.2 hx0);have hm:(xs.map str).map (·.data.toList)=xs:=Jy;have hl:=J3d n;have h:=Tryz.strings_Join b o c (xs.map str) (str [43]) w (by
  intro j x hj;refine hx j _ ?_;unfold sts;rw[List.getElem?_map] at hj |-;cases hq:xs[j]? with
  | none=>rw[hq] at hj;cases hj
  | some y=>rw[hq] at hj;simp at hj;simp[hj]) hb (by rw[Pr];omega) (by rw[Pr];exact hc) (by rw[hm,show(str [43]).data.toList=[43] by rfl,e];omega)
 rw[hm,Pr,show(str [43]).data.toList=[43] by rfl,e] at h;exact h
theorem Jvg{F:Fence}(w:World){ops:Array Oper}{o:Oper}{a:Act}{K:Act->World->Prop}{Q:Exit->Act->World->Prop}{E:Prop}(hgd:o.guard=none)(s x:Operand)
  (ho:o.op=.call { callee:=.builtin .append,args:=#[s,x],argTypes:=#[66,66] }) (base:Nat) (v:Value) (l:List (List UInt8)) (m:List UInt8) (hs:a.eval s=v) (hown:w.ownsRow base 9 1 v l.length (sts l))
  (k:Nat) (cells:Array Value) (hk:w.heap[k]?=some (.cells cells 9 (0,0))) (hc:cells=#[.string (str m)]) (hx:a.eval x=.slice (some ⟨k,0,none⟩) 1 1) (hb:base<=w.heap.size)
  (hl:l.length+1<=1099511627776) (h:∀v' w',w'.ownsRow base 9 1 v' (l.length+1) (sts l++sts [m])->w.grownBy w' v.ownBlock->K (a.put o.dst v') w'):if Region.wanted o (yielded ops a.tmps)=true then Oper.wpIn F n prog o a w K Q else E:=by
 obtain⟨i,hi,hz,hsz,hby⟩:=info_parts Jib;have hw:Region.wanted o (yielded ops a.tmps)=true:=by simp[Region.wanted,hgd]
 rw[if_pos hw];obtain⟨v',w',hrun,r1,r2,-⟩:=run_append_own (P:=prog) w base 66 o.type 9 i _ 1 16 underlying66 hi hz hsz hby rfl Kd v l.length (sts l) hown ⟨k,0,none⟩ 1 1 (sts [m]) Ke (fun j u hu=>by
  have hadd:(⟨k,0,none⟩:Addr).add j=⟨k,j,none⟩:=Ks;rw[hadd,cell_of_row w k j cells _ _ hk,<-hu,hc];simp) (Jxc [m]) Kr Ka hb
 unfold Oper.wpIn;refine⟨?_,?_⟩
 ·simp[Oper.about,ho,resolve,Target.leads,Sem.run_pure]
 ·rw[Oper.semAt_plain F _ _ (by rw[ho];intro c hc';cases hc')]
  simp[execOp,ho,resolve,invoke,builtin,hs,hx,hrun,Result.andThen];exact h v' w' r1 r2
theorem J9h(n:Nat)(hn:n<256)(h0:n≠0)(w:World)(hg:GoodR w):CallsIn Fence.wide 3 prog 146 #[.int .i64 (n:Int)] w fun e W'=>e=.returned (.tuple #[.string (str (textR n)),.int .i64 0])/\Po w W':=by
 have hs:W64 n:=by unfold W64;omega
 have hlt:6<w.heap.size:=var_size gTab hg.1;obtain⟨i0,hi,hz0,hz1,hz2⟩:=info_parts Jib;have M:=Pe (fun W=>Jc5 n 255 hs Kd W);rw[Jha hs,Pk hn] at M;have e1:IntKind.u64.wrap (n:Int)=(n:Int):=by rw[IntKind.wrap_u64];omega
 have e2:((n:Int)==0)=false:=Jaa Ka;refine callsIn_of_wp_marks func146 rfl trivial ?_ rfl;simp only[ntmps146,List.size_toArray,List.length_cons,List.length_nil,Nat.reduceAdd,Nat.reduceSub,Array.replicate_succ,Array.replicate_zero,List.push_toArray,List.append_toArray,List.nil_append,List.cons_append];have HG:=Pe hg;have HS:=Pe hs;have HL:=Pe hlt;clear hg hs hlt;gi_wp2_with (refine⟨trivial,?_⟩;gi_at_call 226;refine(callsIn_wide.2 (M.out _)).mono ?_;rintro e w' ⟨rfl,rfl⟩);gi_wp2_with (refine⟨trivial,?_⟩;gi_at_call 227;refine(callsIn_wide.2 (J9e n _)).mono ?_;rintro e w' ⟨rfl,rfl⟩)
 have bO:=Boxed.new w 66 (.slice none 0 0);have bN:=Boxed.new (w.alloc (.cells #[.slice none 0 0] 66)) 226 (.int .u64 (n:Int));rw[World.size_alloc] at bN;have hB0:Po w ((w.alloc (.cells #[.slice none 0 0] 66)).alloc (.cells #[.int .u64 (n:Int)] 226)):=((Below.refl _ w).alloc Ph _).alloc Ke _;refine wpIn_rangeFunc_ownG rfl (show 1<=3 by decide) (gf:=305) (lb:=#[.pointer (some ⟨w.heap.size+1,0,none⟩)]) rfl trivial (enters_of func305 Kl rfl)
  (Jn9 8 n HS.out (Ju9 n hn) (3 - 1) (w.heap.size+1) w.heap.size Kd _ bN.cell (Jn8 HG.out.1 HL.out hB0) HL.out Kb) belowK_t (belowK_b Kb) Pg (fun _=>rfl)
  (fun pre W=>(∃v,Boxed W w.heap.size 66 v/\W.ownsRow w.heap.size 9 1 v (nmsR (pre.map (·.val))).length (sts (nmsR (pre.map (·.val))))/\True)/\Po w W)
  (fun _ _ _=>False)
  (OwnFrom.and (Own.from (holdsRow_own w.heap.size w.heap.size 66 9 1 (fun pre:List (Fin 8)=>(nmsR (pre.map (·.val))).length) (fun pre=>sts (nmsR (pre.map (·.val)))) (fun _ _=>True)) _) (ownFrom_below Ph Kb))
  (fun _ _ _ _ _ hs _ _=>hs)
  ⟨⟨_,bO.alloc _,World.ownsRow_nil _ _ _ _,trivial⟩,hB0⟩
  (fun x=>{ tmps:=#[.int .i64 (n:Int),undef,.string ⟨#[]⟩,.int .i64 0,.int .u64 (n:Int),.pointer (some ⟨w.heap.size,0,none⟩),.int .i64 ((x.val:Nat):Int),.int .i64 (n:Int),.int .u64 (n:Int),.int .u64 (n:Int),.bool true,.bool false,.int .i64 (n:Int),.bool false,.int .u64 (n:Int),.func (.func 305) #[] #[.pointer (some ⟨w.heap.size+1,0,none⟩)],.int .i64 ((x.val:Nat):Int),undef,undef,undef,undef,undef,undef,undef,undef],defers:=[] }) ?assign ?body ?done ?stop
 case assign =>
  intro l x W K hK;gi_wp2;exact hK
 case body =>
  rintro l pre x W ⟨⟨v,hv,hrow,-⟩,hB⟩ hlen;have hv1:Boxed W.drew w.heap.size 66 v:=hv;have hr1:W.drew.ownsRow w.heap.size 9 1 v (nmsR (pre.map (·.val))).length (sts (nmsR (pre.map (·.val)))):=hrow;have hB1:Po w W.drew:=hB.drew;have hk1:KeepsOthers W W.drew:=KeepsOthers.drew W;have hb1:Below w.heap.size W W.drew:=(Below.refl _ _).drew;have cn:=(HG.out.below hB1).name x.val x.isLt;have ix:=fun W=>Jx6 1 x.val x.isLt W
  have hc1:=hv1.cell;clear hv hrow;gi_wp2;refine wpIn_region_any Kl ?_;change wpAnyIn _ _ _ _ _ _ _ _ _ (World.drew _);generalize W.drew=W1 at *;have hcA:=fun o=>(hv1.alloc o).cell
  have nl:(nmsR (pre.map (·.val))).length<=64:=by rw[Jx9,Pr];omega
  have NS:=Pe (J3v (pre.map (·.val)) x.val);repeat' (first
   | exact AllReadyIn.nil
   | refine AllReadyIn.cons rfl (fun K hK=>?_) ?_
   | refine wpAnyIn_ready (rs:=[0,1]) Vm Ke ?_
   | refine wpAnyIn_ready (rs:=[0,2]) Vm Ke ?_
   | refine wpAnyIn_ready (rs:=[0,3]) Vm Ke ?_
   | refine wpAnyIn_ready (rs:=[0,4]) Vm Ke ?_
   | refine wpAnyIn_ready (rs:=[0]) Vm Ke ?_
   | refine wpAnyIn_ready (rs:=[1]) Vm Ke ?_
   | refine wpAnyIn_ready (rs:=[2]) Vm Ke ?_
   | refine wpAnyIn_ready (rs:=[3]) Vm Ke ?_
   | refine wpAnyIn_ready (rs:=[4]) Vm Ke ?_
   | refine wpAnyIn_ready (rs:=[5]) Vm Ke ?_
   | refine wpAnyIn_ready (rs:=[6]) Vm Ke ?_
   | refine wpAnyIn_done Vm ?_ _
   | (refine Jvg _ (by rfl) (.tmp 17) (.tmp 21) (by rfl) w.heap.size v (nmsR (pre.map (·.val))) (nmR x.val) (by rfl) (hr1.alloc _) W1.heap.size _ (heap_alloc_new _ _) (by rfl) (by rfl) (by have:=hB1.size;simp;omega) Ka ?_
      intro v' w1 hown' hgrow;obtain⟨g',cap',rfl⟩:=ownsRow_succ hown';obtain⟨q1,q2,r2,k2,b2⟩:=hv1.appended Kd hr1 hB1.size Ph hown' hgrow;have hcc1:=q1.cell;have hcf1:=q1.frozen;clear q1 hown' hgrow;refine hK _ _ ?_;clear hK K)
   | (go_simp;refine hK _ _ ?_;clear hK K))
  all_goals
   have R:(w1.setCell ⟨w.heap.size,0,none⟩ (.slice (some ⟨g',0,none⟩) ((nmsR (pre.map (·.val))).length+1) cap')).ownsRow w.heap.size 9 1 (.slice (some ⟨g',0,none⟩) ((nmsR (pre.map (·.val))).length+1) cap') (nmsR ((pre++[x]).map (·.val))).length (sts (nmsR ((pre++[x]).map (·.val)))):=by
    have e1:nmsR ((pre++[x]).map (·.val))=nmsR (pre.map (·.val))++[nmR x.val]:=by rw[List.map_append];exact NS.out
    rw[e1,Pq];unfold sts at r2 |-;rw[List.map_append];exact r2
   exact⟨(hk1.trans k2).from _,hb1.trans b2,⟨_,q2,R,trivial⟩,hB1.trans b2⟩
 case done =>
  rintro D ys W hD hys ⟨⟨v,hv,hrow,-⟩,hB⟩ hK;have hc:=hv.cell;have hl:Lst W v (nmsR (elems n)):=by
   rw[hys] at hrow;exact OwnS.lst hrow
  have J:=Pe (Jya n hn h0 v W hl);have HB:=Pe hB;have HK:=Pe hK;clear hrow hB hl;gi_wp2_with (refine⟨trivial,?_⟩;gi_at_call 133;refine(callsIn_wide.2 J.out).mono ?_;rintro e w5 ⟨rfl,b5⟩);have hDl:D<W.heap.size:=by have:=(Pn HK.out).1;exact this
  have hK5:w5.heap[D]?=some (.deferred (some [])):=(b5.block D hDl).trans HK.out;refine⟨Ke,.inl ⟨_,_,rfl,run_takeDeferred hK5,?_⟩⟩;exact⟨_,results_tmp2 rfl _ _ _,rfl,(HB.out.trans (b5.mono HB.out.size)).trans (belowK_b (w:=w) Ph w5 D _ _ (by simp at hD;omega) hK5 rfl rfl)⟩
 case stop =>
  exact Jw
theorem kfmt_any(n:Int)(h1:-9223372036854775808<=n)(h2:n<=9223372036854775807)(w:World)(hg:GoodR w):Pc 146 #[.int .i64 n] w (.tuple #[.string (str (fmtR n).1),.int .i64 ((fmtR n).2)]):=by
 by_cases h:n<0\/255<n
 ·rw[Jsh h]
  refine Pf (J3u n h1 h2 h w) ?_;exact Js
 ·obtain⟨m,rfl⟩:=Int.eq_ofNat_of_zero_le (show 0<=n by omega)
  rw[Jxn Ka];by_cases h0:m=0
  ·subst h0
   refine Pf (Jx8 w) ?_;exact Js
  ·exact callsIn_wide.1 (J9h m Ka h0 w hg)
def belN(m:Nat):Nat:=Jgg (lowN (m:Int)) (lowN 0)
theorem Jod(m:Nat):W64 (belN m):=Jxi (Jsf _)
theorem Jyb(m j:Nat)(hj:j<64):(belN m).testBit j=decide (j<m):=by
 unfold belN;rw[Jls _ _ (Jsf 0) j hj,Jxh _ j hj,Jxh 0 j hj,Pj (by omega:¬(j:Int)<0),Bool.not_false,Bool.and_true,Bool.eq_iff_iff,decide_eq_true_iff,decide_eq_true_iff];omega
theorem Jso{s:Nat}(hs:s<256):decide (Jgg s (belN m)=0)=decide (s<2 ^ m):=by
 rw[Bool.eq_iff_iff,decide_eq_true_iff,decide_eq_true_iff,Joc (by unfold W64;omega) (Jod m),J85 hs];constructor
 ·intro h j hj hb
  have:=h j hj hb;rw[Jyb m j hj] at this;exact of_decide_eq_true this
 ·intro h j hj hb
  rw[Jyb m j hj];exact Pk (h j hj hb)
theorem Jsp(h:m<8):one (m:Int)=2 ^ m:=by
 unfold one;rw[if_pos Ka,Int.toNat_natCast]
def Jly(t:List UInt8)(a i:Nat):List UInt8:=(t.drop a).take (i - a)
theorem Jsq(t:List UInt8)(a:Nat):Jly t a a=[]:=by unfold Jly;rw[Nat.sub_self,List.take_zero]
theorem Jyc{t:List UInt8}{a i:Nat}{x:UInt8}(ha:a<=i)(h:t[i]?=some x):Jly t a (i+1)=Jly t a i++[x]:=by
 unfold Jly;rw[show i+1 - a=(i - a)+1 by omega];refine Jbx (t.drop a) (i - a) x ?_;rw[List.getElem?_drop,show a+(i - a)=i by omega];exact h
theorem Jyd(s:Nat)(c:List UInt8):(Jer c=-1/\cutR s c=none)\/(∃m:Nat,m<8/\Jer c=(m:Int)/\¬s<2 ^ m/\cutR s c=none)\/(∃m:Nat,m<8/\Jer c=(m:Int)/\s<2 ^ m/\cutR s c=some (s+2 ^ m)):=by
 rcases Jqn c with h | ⟨h0,h8⟩
 ·exact .inl ⟨h,J3f h⟩
 ·obtain⟨m,hm⟩:=Int.eq_ofNat_of_zero_le h0
  by_cases hs:s<2 ^ m
  ·exact .inr (.inr ⟨m,Ka,hm,hs,Jxo hm hs⟩)
  ·exact .inr (.inl ⟨m,Ka,hm,hs,Ju8 hm hs⟩)
theorem Joe{s:Nat}(hm:m<8)(h:s<2 ^ m):s+2 ^ m<256:=by
 have:2 ^ m<=2 ^ 7:=Nat.pow_le_pow_right Kd Ka;omega
theorem Jof{t:List UInt8}(hs:str t=s):(s.toList==[110,111,110,101])=decide (t=Jlv):=by
 rw[<-hs,Lib.toList_data];show(t==Jlv)=_
 rw[Bool.eq_iff_iff];simp
theorem kprs_any(t:List UInt8)(s:ByteArray)(hs:str t=s)(hle:t.length<=1000000)(w:World)(hg:GoodR w):Pb 257 #[.string s] w (.tuple #[.int .i64 ((ansR (prsR t)).1),.int .i64 ((ansR (prsR t)).2)]):=by
 have HS:=Pe hs;have hsz:s.size=t.length:=by rw[<-hs,Jai]
 have hsl:s.data.toList=t:=Vv;by_cases hn:t=Jlv
 ·have g:(s.toList==[110,111,110,101])=true:=by rw[Jof hs,Pk hn]
  have R:Hid (prsR t=0):=by show _=_;rw[hn];rfl
  generalize prsR t=r at R |-;clear hs hn hsl;go_enter func257,ntmps257;go_wp2_with fail;go_step3;exact Jl
 have g:(s.toList==[110,111,110,101])=false:=by rw[Jof hs,Pj hn]
 obtain⟨r,hr⟩:=Pi (prsR t);have ST:Hid (r=optR (prsF 0 (Jly t 0 0) (t.drop 0))):=by
  show _=_
  rw[<-hr,Jsq];exact Jxp hn
 rw[hr];have PM:=Pe (fun c z h W hW=>parse_any c z h W hW);have HG:=Pe hg;have HL:=Pe hsl;clear hs hn hr hsl hg;go_enter func257,ntmps257;go_wp2_with fail;go_step3;go_wp2_with fail;go_step3;go_wp2_with fail;go_loop [4,5,6,7] (fun u a f i=>∃(e a' k:Nat),u=.int .u64 (e:Int)/\a=.int .i64 a'/\f=.bool false/\i=.int .i64 k/\e<256/\a'<=k/\k<=t.length/\Hid (r=optR (prsF e (Jly t a' k) (t.drop k)))) (fun _ _ _ i=>t.length+1 - (intOf i).toNat);case atStart=>exact⟨0,0,0,rfl,rfl,rfl,rfl,Kd,Nat.le_refl _,Nat.zero_le _,ST⟩
 case round =>
  clear g ST;obtain⟨e,a,k,rfl,rfl,rfl,rfl,he,ha,hk,hz⟩:=hrel;obtain⟨c,hc⟩:=Pi (Jly t a k);obtain⟨z,hcz,hzz,hz0⟩:=Jc3 c;have sl:=fun W=>J7b s z a k ha Ka (by rw[HL.out,hcz,<-hc];rfl) a k rfl rfl W
  have P:=Pe (PM.out c z hz0 w HG.out);have he64:W64 e:=by unfold W64;omega
  have hways:=Jyd e c;rw[hc] at hz;by_cases hlt:k<t.length
  ·have g1:((k:Int)==(s.size:Int))=false:=Jaa Ka
   obtain⟨x,hx⟩:=Jah hlt;have k1:=fun W=>Jby s k x (by rw[HL.out];exact hx) k rfl W
   by_cases hx43:x=43
   ·subst hx43
    have g2:(((43:UInt8).toNat:Int)==43)=true:=rfl;generalize (((43:UInt8).toNat:Nat):Int)=n43 at k1 g2;rcases hways with⟨hm,hcut⟩ | ⟨j,hj,hm,hlow,hcut⟩ | ⟨j,hj,hm,hlow,hcut⟩
    ·have R:=Pe (Jsi hz.out hx hcut)
     rw[hm,show max (-1:Int) 0=0 by rfl,show decide ((0:Int)<=-1)=false by rfl] at P;clear hx hz hc hcz hz0 hzz hm hcut hlt PM HL;go_wp2_with fail;refine Pf P.out ?_;exact Jl
    ·have R:=Pe (Jsi hz.out hx hcut)
     rw[hm,show max (j:Int) 0=(j:Int) by omega,Pk (show(0:Int)<=(j:Int) by omega)] at P;have RG:Hid (∀W,Pb 329 #[.int .i64 0,.int .i64 (j:Int)] W (.int .u64 ((belN j:Nat):Int))):=fun W=>Jgh 0 (j:Int) W
     have WI:=Pe (fun W=>Jc5 e (belN j) he64 (Jod j) W);rw[Jso he,Pj hlow] at WI;generalize ((belN j:Nat):Int)=bn at RG WI;clear hx hz hc hcz hz0 hzz hm hcut hlt PM HL hlow;go_wp2_with fail;refine Pf P.out ?_;go_wp2_with fail;refine Pf (RG.out _) ?_;go_wp2_with fail;refine Pf (WI.out _) ?_;exact Jl
    ·have N:=Pe (J3h hz.out hx hcut)
     rw[hm,show max (j:Int) 0=(j:Int) by omega,Pk (show(0:Int)<=(j:Int) by omega)] at P;have RG:Hid (∀W,Pb 329 #[.int .i64 0,.int .i64 (j:Int)] W (.int .u64 ((belN j:Nat):Int))):=fun W=>Jgh 0 (j:Int) W
     have WI:=Pe (fun W=>Jc5 e (belN j) he64 (Jod j) W);rw[Jso he,Pk hlow] at WI;have WT:=Pe (fun W=>Jsg e he64 (j:Int) W);rw[Jsp hj,Jxr hlow] at WT;have h256:=Joe hj hlow;generalize ((belN j:Nat):Int)=bn at RG WI;generalize e+2 ^ j=u at N WT h256;clear hx hz hc hcz hz0 hzz hm hcut hlow;go_wp2_with fail;refine Pf P.out ?_;go_wp2_with fail;refine Pf (RG.out _) ?_;go_wp2_with fail;refine Pf (WI.out _) ?_;go_wp2_with fail;refine Pf (WT.out _) ?_;go_wp2_with fail;go_round;case rel=>exact⟨u,k+1,k+1,rfl,Kj,rfl,Kj,h256,Nat.le_refl _,Ka,by rw[Jsq];exact N⟩
     case measure=>exact Q7
   ·have g2:((x.toNat:Int)==43)=false:=Jaa fun h=>hx43 (UInt8.toNat_inj.1 (by show x.toNat=43;omega))
    have N:Hid (r=optR (prsF e (Jly t a (k+1)) (t.drop (k+1)))):=by
     show _=_
     rw[Jyc ha hx,hc];exact Jxq hz.out hx hx43
    generalize ((x.toNat:Nat):Int)=n43 at k1 g2;clear hx hz hc hcz hz0 hzz hx43 hways P sl;go_wp2_with fail;go_round;case rel=>exact⟨e,a,k+1,rfl,rfl,rfl,Kj,he,Ka,Ka,N⟩
    case measure=>exact Q7
  ·obtain rfl:k=t.length:=Ka
   have g1:((t.length:Int)==(s.size:Int))=true:=Jag Ka;have E:=Pe (J3g hz.out Ph);rcases hways with⟨hm,hcut⟩ | ⟨j,hj,hm,hlow,hcut⟩ | ⟨j,hj,hm,hlow,hcut⟩
   ·have R:Hid (r=-1):=Ju
    rw[hm,show max (-1:Int) 0=0 by rfl,show decide ((0:Int)<=-1)=false by rfl] at P;clear hz hc hcz hz0 hzz hm hcut hlt PM HL E;go_wp2_with fail;refine Pf P.out ?_;exact Jl
   ·have R:Hid (r=-1):=Ju
    rw[hm,show max (j:Int) 0=(j:Int) by omega,Pk (show(0:Int)<=(j:Int) by omega)] at P;have RG:Hid (∀W,Pb 329 #[.int .i64 0,.int .i64 (j:Int)] W (.int .u64 ((belN j:Nat):Int))):=fun W=>Jgh 0 (j:Int) W
    have WI:=Pe (fun W=>Jc5 e (belN j) he64 (Jod j) W);rw[Jso he,Pj hlow] at WI;generalize ((belN j:Nat):Int)=bn at RG WI;clear hz hc hcz hz0 hzz hm hcut hlt PM HL hlow E;go_wp2_with fail;refine Pf P.out ?_;go_wp2_with fail;refine Pf (RG.out _) ?_;go_wp2_with fail;refine Pf (WI.out _) ?_;exact Jl
   ·have R:Hid (r=((e+2 ^ j:Nat):Int)):=Ju
    rw[hm,show max (j:Int) 0=(j:Int) by omega,Pk (show(0:Int)<=(j:Int) by omega)] at P;have RG:Hid (∀W,Pb 329 #[.int .i64 0,.int .i64 (j:Int)] W (.int .u64 ((belN j:Nat):Int))):=fun W=>Jgh 0 (j:Int) W
    have WI:=Pe (fun W=>Jc5 e (belN j) he64 (Jod j) W);rw[Jso he,Pk hlow] at WI;have WT:=Pe (fun W=>Jsg e he64 (j:Int) W);rw[Jsp hj,Jxr hlow] at WT;have h256:=Joe hj hlow;generalize ((belN j:Nat):Int)=bn at RG WI;generalize e+2 ^ j=u at R WT h256;have ei:IntKind.i64.wrap (u:Int)=(u:Int):=IntWalk.i64_in _ Ka;clear hz hc hcz hz0 hzz hm hcut hlow E;go_wp2_with fail;refine Pf P.out ?_;go_wp2_with fail;refine Pf (RG.out _) ?_;go_wp2_with fail;refine Pf (WI.out _) ?_;go_wp2_with fail;refine Pf (WT.out _) ?_;go_wp2_with fail;rw[Exit.noGoto_ret];go_ret2;exact⟨ret_chk (by rw[R.out,Jnz]) (by rw[R.out,Jnz]),rfl⟩
theorem Jet{l:List UInt8}:(str l).size=0↔l=[]:=by rw[Jai,List.length_eq_zero_iff]
theorem rfmt_any(n:Int)(w:World):Pc 67 #[.int .i64 n] w (.tuple #[.string (str (fmtR n).1),.int .i64 ((fmtR n).2)]):=by
 by_cases hf:n<0\/255<n
 ·rw[Jsh hf]
  by_cases h0:n<0
  ·clear hf
   go_enter func67,ntmps67;exact Jr
  ·have d:decide (n<0)=false:=Pj h0
   have g:255<n:=Ka;clear hf h0;go_enter func67,ntmps67;exact Jr
 obtain⟨k,rfl⟩:=Int.eq_ofNat_of_zero_le (show 0<=n by omega);have hk:k<256:=Ka;rw[Jxn hk];have d0:decide ((k:Int)<0)=false:=Q8;have d1:decide (255<(k:Int))=false:=Q8;have BT:=Pe (fun i hi W=>J3t (k:Int) i hi W);rw[show Jes (k:Int)=k by unfold Jes;omega] at BT;obtain⟨r,hr⟩:=Pi (textR k);rw[hr];have HR:=Pe hr;clear hf hr;go_enter func67,ntmps67;go_wp2_with fail;go_loopw [4,5] (fun u i wr=>∃m:Nat,u=.string (str (txF k m))/\i=.int .i64 m/\m<=8/\Hid (Po w wr)) (fun _ i _=>8 - (intOf i).toNat);case atStart=>exact⟨0,rfl,rfl,Nat.zero_le _,Pe Pg⟩
 case round =>
  clear d0 d1;obtain⟨m,rfl,rfl,hm,HB⟩:=hrel;by_cases hlt:m<8
  ·have gm:(m:Int)<8:=Ka
   have C:=Pe (fun W=>BT.out m hlt W);cases ht:k.testBit m with
   | false =>
    have N:=Pe (Qcv ht);rw[ht] at C;clear ht;go_wp2_with fail;refine Pf (C.out _) ?_;go_wp2_with fail;go_roundw;case rel=>exact⟨m+1,by rw[N.out],Kj,Ka,HB⟩
    case measure=>exact Q7
   | true =>
    have N:=Pe (J84 ht);have hle:=Jxm k m hm;have hnl:=(Jxj m hlt).2;rw[ht] at C;obtain⟨nm,hnm⟩:=Pi (str (nmR m));have hns:nm.size<=9:=by rw[<-hnm,Jai];exact hnl
    clear ht;by_cases h0:txF k m=[]
    ·have N2:Hid (str (txF k (m+1))=nm):=by
      show _=_
      rw[N.out,<-hnm];unfold catR;rw[if_pos h0]
     rw[h0];have em:(str ([]:List UInt8)).toList.isEmpty=true:=by rw[Jca,decide_eq_true_iff,Jet]
     have ea:str []++nm=nm:=by rw[<-hnm,Jas];rfl
     have es:(str ([]:List UInt8)).size+nm.size<=100:=by rw[Jai];simp;omega
     obtain⟨z,hz⟩:=Pi (str ([]:List UInt8));rw[hz] at em ea es |-;have HN:=Pe hnm;clear N h0 hle hnl hnm hz;go_wp2_with fail;refine Pf (C.out _) ?_;clear C;go_wp2_with fail;refine(rnames_any wr).mono ?_;rintro e w1 ⟨rfl,c1,b1⟩;have c:=c1 m hlt;rw[HN.out] at c;have B1:=Pe (HB.out.trans (b1.mono HB.out.size));clear c1 b1 HB HN;go_wp2_with fail;go_roundw;case rel=>exact⟨m+1,by rw[N2.out],Kj,Ka,B1⟩
     case measure=>exact Q7
    ·have N2:Hid (str (txF k (m+1))=str (txF k m)++⟨#[43]⟩++nm):=by
      show _=_
      rw[N.out,<-hnm,show(⟨#[43]⟩:ByteArray)=str [43] by rfl,Jas,Jas];unfold catR;rw[if_neg h0];simp
     have em:(str (txF k m)).toList.isEmpty=false:=by rw[Jca,decide_eq_false_iff_not,Jet];exact h0
     have es:(str (txF k m)).size<=80:=Qb;obtain⟨z,hz⟩:=Pi (str (txF k m));rw[hz] at em es N2 |-;have e1:(⟨#[43]⟩:ByteArray).size=1:=rfl;have es1:z.size+(⟨#[43]⟩:ByteArray).size<=100:=by rw[e1];omega
     have es2:(z++⟨#[43]⟩).size+nm.size<=100:=by rw[ByteArray.size_append,e1];omega
     have HN:=Pe hnm;clear N h0 hle hnl hnm hz;go_wp2_with fail;refine Pf (C.out _) ?_;clear C;go_wp2_with fail;refine(rnames_any wr).mono ?_;rintro e w1 ⟨rfl,c1,b1⟩;have c:=c1 m hlt;rw[HN.out] at c;have B1:=Pe (HB.out.trans (b1.mono HB.out.size));clear c1 b1 HB HN;go_wp2_with fail;go_roundw;case rel=>exact⟨m+1,by rw[N2.out],Kj,Ka,B1⟩
     case measure=>exact Q7
  ·obtain rfl:m=8:=Ka
   have d:decide (((8:Nat):Int)<8)=false:=rfl;by_cases h0:txF k 8=[]
   ·have R:Hid (r=Jlv):=by show _=_;rw[<-HR.out,Ju6 h0]
    rw[h0];have em:(str ([]:List UInt8)).toList.isEmpty=true:=by rw[Jca,decide_eq_true_iff,Jet]
    obtain⟨z,hz⟩:=Pi (str ([]:List UInt8));rw[hz] at em |-;clear hlt hm h0 HR;go_wp2_with fail;go_ret2;exact⟨Jx4 Jt rfl,HB.out⟩
   ·have R:Hid (r=txF k 8):=by show _=_;rw[<-HR.out,Ju7 h0]
    have em:(str (txF k 8)).toList.isEmpty=false:=by rw[Jca,decide_eq_false_iff_not,Jet];exact h0
    rw[<-R.out] at em |-;obtain⟨z,hz⟩:=Pi (str r);rw[hz] at em |-;have HZ:=Pe hz;clear hlt hm h0 HR R hz;go_wp2_with fail;go_ret2;exact⟨Jx4 HZ.out.symm rfl,HB.out⟩
end S15
section
open Go Go.RowKit
abbrev Cl:=Int×Int×Int×Bool×Bool
def onC(p:Option Cl)(x:Cl):Bool:=match p with | some y=>decide (x.1=y.1) | none=>false
def ovC(p:Option Cl)(x:Cl):Bool:=match p with | some y=>decide (x.2.1<y.2.2.1) | none=>false
def badC(st lo hi:Int)(p:Option Cl)(x:Cl):Int :=
 if x.1<0\/st<=x.1 then 9 else if onC p x then 13 else if x.2.1<lo\/x.2.2.1<x.2.1\/hi<x.2.2.1 then 10 else if ovC p x then 10 else 0
section
variable {st lo hi:Int} {p:Option Cl} {x:Cl}
theorem Jdy(h:x.1<0\/st<=x.1):badC st lo hi p x=9:=by unfold badC;rw[if_pos h]
theorem Jog(h1:¬x.1<0)(h2:¬st<=x.1)(h:onC p x=true):badC st lo hi p x=13:=by unfold badC;rw[if_neg Ka,if_pos h]
theorem Jb6(h1:¬x.1<0)(h2:¬st<=x.1)(h3:onC p x=false)(h:x.2.1<lo\/x.2.2.1<x.2.1\/hi<x.2.2.1):badC st lo hi p x=10:=by
 unfold badC;rw[if_neg Ka,if_neg (by rw[h3];simp),if_pos h]
theorem Joh(h1:¬x.1<0)(h2:¬st<=x.1)(h3:onC p x=false)(h4:¬x.2.1<lo)(h5:¬x.2.2.1<x.2.1)(h6:¬hi<x.2.2.1)(h:ovC p x=true):badC st lo hi p x=10:=by
 unfold badC;rw[if_neg Ka,if_neg (by rw[h3];simp),if_neg Ka,if_pos h]
theorem badC_none(h1:¬x.1<0)(h2:¬st<=x.1)(h3:onC p x=false)(h4:¬x.2.1<lo)(h5:¬x.2.2.1<x.2.1)(h6:¬hi<x.2.2.1)(h:ovC p x=false):badC st lo hi p x=0:=by
 unfold badC;rw[if_neg Ka,if_neg (by rw[h3];simp),if_neg Ka,if_neg Kx]
theorem Jdz:onC none x=false:=rfl
theorem Jsr:ovC none x=false:=rfl
theorem Jye{y:Cl}(h:x.1=y.1):onC (some y) x=true:=Pk h
theorem Jfq{y:Cl}(h:x.1≠y.1):onC (some y) x=false:=Pj h
theorem Jyf{y:Cl}(h:x.2.1<y.2.2.1):ovC (some y) x=true:=Pk h
theorem J7i{y:Cl}(h:¬x.2.1<y.2.2.1):ovC (some y) x=false:=Pj h
end
def prvC(l:List Cl):Nat->Option Cl
 | 0=>none
 | k+1=>l[k]?
def ckF(st lo hi:Int)(p:Option Cl)(k:Nat):List Cl->Int×Int
 | []=>(0,0)
 | x::r=>if badC st lo hi p x=0 then ckF st lo hi (some x) (k+1) r else((k:Int),badC st lo hi p x)
def chkC(st lo hi:Int)(l:List Cl):Int×Int:=if l.length<2\/32<l.length then(0,5) else ckF st lo hi none 0 l
section
variable {st lo hi:Int} {q:Int×Int} {l:List Cl} {k:Nat} {x:Cl}
theorem Jss(h:l.length<2):chkC st lo hi l=(0,5):=by unfold chkC;rw[if_pos (.inl h)]
theorem chkC_many(h:32<l.length):chkC st lo hi l=(0,5):=by unfold chkC;rw[if_pos (.inr h)]
theorem chkC_start(h:¬l.length<2)(h2:¬32<l.length):chkC st lo hi l=ckF st lo hi (prvC l 0) 0 (l.drop 0):=by unfold chkC;rw[if_neg Ka];rfl
theorem Jqo(hr:q=ckF st lo hi (prvC l k) k (l.drop k))(h:l[k]?=some x)(hb:badC st lo hi (prvC l k) x=0):q=ckF st lo hi (prvC l (k+1)) (k+1) (l.drop (k+1)):=by
 rw[hr,Jbg l k x h];conv=>lhs;unfold ckF
 rw[if_pos hb];show _=ckF st lo hi l[k]? _ _
 rw[h]
theorem Jc6{e:Int}(hr:q=ckF st lo hi (prvC l k) k (l.drop k))(h:l[k]?=some x)(hb:badC st lo hi (prvC l k) x=e)(he:e≠0):q=((k:Int),e):=by
 rw[hr,Jbg l k x h];unfold ckF;rw[if_neg (by rw[hb];exact he),hb]
theorem Jyg(hr:q=ckF st lo hi (prvC l k) k (l.drop k))(h:l.length<=k):q=(0,0):=by
 exact Ky
end
def OkS(l:List Cl):Prop:=∀x∈l,(-9223372036854775808<=x.1/\x.1<=9223372036854775807)/\(-9223372036854775808<=x.2.1/\x.2.1<=9223372036854775807)/\-9223372036854775808<=x.2.2.1/\x.2.2.1<=9223372036854775807
variable {w w7:World} {a d s:Int} {v:Value} {o:Bool} {b:Nat}
theorem OkS.all{l:List Cl}(h:OkS l){k:Nat}{x:Cl}(hx:l[k]?=some x):(-9223372036854775808<=x.1/\x.1<=9223372036854775807)/\(-9223372036854775808<=x.2.1/\x.2.1<=9223372036854775807)/\-9223372036854775808<=x.2.2.1/\x.2.2.1<=9223372036854775807:=h x (List.mem_iff_getElem?.2 ⟨k,hx⟩)
open Go.RowKit
def cc(x:Cl):List Value:=[.int .i64 x.1,.int .i64 x.2.1,.int .i64 x.2.2.1,.bool x.2.2.2.1,.bool x.2.2.2.2]
theorem Jh0(x:Cl):(cc x).length=5:=rfl
theorem Qc2(x:Cl):∀u∈cc x,u.oneCell'=true:=by
 intro u hu;simp[cc] at hu;rcases hu with rfl | rfl | rfl | rfl | rfl <;> rfl
abbrev LstC:=@LstG Cl cc
abbrev OwnC:=@OwnG Cl cc 58 5
theorem J9i:(prog.info? 58).map (fun i=>(i.zero,i.size,i.bytes))=some (some (.agg #[.int .i64 0,.int .i64 0,.int .i64 0,.bool false,.bool false]),5,32):=Kl
theorem Ja6{A:Option Addr}{n c:Nat}{l:List Cl}(h:LstC w (.slice A n c) l){i:Nat}{s a d:Int}{o e:Bool}(hs:l[i]?=some (s,a,d,o,e)):
  ∃b f,A=some ⟨b,f,none⟩/\b<w.heap.size/\w.cell? ⟨b,f+i*5,none⟩=some (.int .i64 s)/\w.cell? ⟨b,f+i*5+1,none⟩=some (.int .i64 a)/\w.cell? ⟨b,f+i*5+2,none⟩=some (.int .i64 d)/\w.cell? ⟨b,f+i*5+3,none⟩=some (.bool o)/\w.cell? ⟨b,f+i*5+4,none⟩=some (.bool e):=by
 obtain⟨A',c',hv,_,_,hx⟩:=h;cases hv;have hi:=(Pm hs).1;obtain⟨b,f,rfl,hb,hcell⟩:=hx Ka;exact⟨b,f,rfl,hb,hcell (i*5) _ (by rw[<-Nat.add_zero (i*5),Jbq Jh0 hs 0 Ka];rfl),(hcell (i*5+1) _ (by rw[Jbq Jh0 hs 1 Ka];rfl):_),(hcell (i*5+2) _ (by rw[Jbq Jh0 hs 2 Ka];rfl):_),(hcell (i*5+3) _ (by rw[Jbq Jh0 hs 3 Ka];rfl):_),(hcell (i*5+4) _ (by rw[Jbq Jh0 hs 4 Ka];rfl):_)⟩
abbrev boxC(s a d:Int)(o e:Bool):Obj:=.cells #[.int .i64 s,.int .i64 a,.int .i64 d,.bool o,.bool e] 58 (0,0)
theorem Jki{e:Bool}(h:w.alloc (boxC s a d o e)=w7):
  Po w w7/\w7.cell? ⟨w.heap.size,0,none⟩=some (.int .i64 s)/\w7.cell? ⟨w.heap.size,1,none⟩=some (.int .i64 a)/\w7.cell? ⟨w.heap.size,2,none⟩=some (.int .i64 d)/\w7.cell? ⟨w.heap.size,3,none⟩=some (.bool o)/\w7.cell? ⟨w.heap.size,4,none⟩=some (.bool e)/\w.heap.size<w7.heap.size:=by
 subst h;have c7:=heap_alloc_new w (boxC s a d o e);exact Jo
theorem ret_chk{b c:Int}(h:a=b)(k:c=d):Ending.returned (.tuple #[.int .i64 a,.int .i64 c])=.returned (.tuple #[.int .i64 b,.int .i64 d]):=Qm
abbrev Tp:=List UInt8×Int×Int×Bool×Value×List Cl
def te(x:Tp):List Value:=[.string (str x.1),.int .i64 x.2.1,.int .i64 x.2.2.1,.bool x.2.2.2.1,x.2.2.2.2.1]
def clT(x:Tp):List Cl:=x.2.2.2.2.2
theorem Je3(x:Tp):(te x).length=5:=rfl
abbrev LstT:=@LstG Tp te
def OkT(W:World)(x:Tp):Prop:=LstC W x.2.2.2.2.1 x.2.2.2.2.2/\x.2.2.2.2.2.length<=9223372036854775807/\OkS x.2.2.2.2.2
theorem OkT.below{w':World}{x:Tp}(h:OkT w x)(b:Po w w'):OkT w' x:=⟨h.1.below b,h.2⟩
def Jcs(w:World)(v:Value)(l:List Tp):Prop:=LstT w v l/\∀x∈l,OkT w x
theorem Jcs.below{w':World}{l:List Tp}(h:Jcs w v l)(b:Po w w'):Jcs w' v l:=⟨h.1.below b,fun x hx=>(h.2 x hx).below b⟩
theorem Ja7{A:Option Addr}{n c:Nat}{l:List Tp}(h:Jcs w (.slice A n c) l){i:Nat}{id:List UInt8}{r k:Int}{f:Bool}{v:Value}{cl:List Cl}(hs:l[i]?=some (id,r,k,f,v,cl)){s:ByteArray}(hst:str id=s):
  ∃b o B m,A=some ⟨b,o,none⟩/\v=.slice B cl.length m/\b<w.heap.size/\w.cell? ⟨b,o+i*5,none⟩=some (.string s)/\w.cell? ⟨b,o+i*5+1,none⟩=some (.int .i64 r)/\w.cell? ⟨b,o+i*5+2,none⟩=some (.int .i64 k)/\w.cell? ⟨b,o+i*5+3,none⟩=some (.bool f)/\w.cell? ⟨b,o+i*5+4,none⟩=some (.slice B cl.length m) /\
   LstC w (.slice B cl.length m) cl/\cl.length<=9223372036854775807/\OkS cl:=by
 subst hst;obtain⟨ht,hok⟩:=h;obtain⟨h1,h2,h3⟩:=hok _ (List.mem_iff_getElem?.2 ⟨i,hs⟩);simp only at h1 h2 h3;obtain⟨B,m,rfl,-,-,-⟩:=_root_.id h1;obtain⟨A',c',hv,_,_,hx⟩:=ht;cases hv;have hi:=(Pm hs).1;obtain⟨b,o,rfl,hb,hcell⟩:=hx Ka;exact⟨b,o,B,m,rfl,rfl,hb,hcell (i*5) _ (by rw[<-Nat.add_zero (i*5),Jbq Je3 hs 0 Ka];rfl),(hcell (i*5+1) _ (by rw[Jbq Je3 hs 1 Ka];rfl):_),(hcell (i*5+2) _ (by rw[Jbq Je3 hs 2 Ka];rfl):_),(hcell (i*5+3) _ (by rw[Jbq Je3 hs 3 Ka];rfl):_),(hcell (i*5+4) _ (by rw[Jbq Je3 hs 4 Ka];rfl):_),h1,h2,h3⟩
abbrev boxT(s:ByteArray)(r k:Int)(f:Bool)(v:Value):Obj:=.cells #[.string s,.int .i64 r,.int .i64 k,.bool f,v] 56 (0,0)
theorem Jyh{s:ByteArray}{r k:Int}{f:Bool}(h:w.alloc (boxT s r k f v)=w7):
  Po w w7/\w7.cell? ⟨w.heap.size,0,none⟩=some (.string s)/\w7.cell? ⟨w.heap.size,1,none⟩=some (.int .i64 r)/\w7.cell? ⟨w.heap.size,2,none⟩=some (.int .i64 k)/\w7.cell? ⟨w.heap.size,3,none⟩=some (.bool f)/\w7.cell? ⟨w.heap.size,4,none⟩=some v/\w.heap.size<w7.heap.size:=by
 subst h;have c7:=heap_alloc_new w (boxT s r k f v);exact Jo
theorem Jfr{s:ByteArray}{r k:Int}{f:Bool}(h:w.heap[b]?=some (boxT s r k f v)):
  w.cell? ⟨b,0,none⟩=some (.string s)/\w.cell? ⟨b,1,none⟩=some (.int .i64 r)/\w.cell? ⟨b,2,none⟩=some (.int .i64 k)/\w.cell? ⟨b,3,none⟩=some (.bool f)/\w.cell? ⟨b,4,none⟩=some v :=
 ⟨Jk,Jj,Jn,Jm,Jq⟩
theorem Jst{u:Bool}(h:w.heap[b]?=some (boxC s a d o u)):
  w.cell? ⟨b,0,none⟩=some (.int .i64 s)/\w.cell? ⟨b,1,none⟩=some (.int .i64 a)/\w.cell? ⟨b,2,none⟩=some (.int .i64 d)/\w.cell? ⟨b,3,none⟩=some (.bool o)/\w.cell? ⟨b,4,none⟩=some (.bool u) :=
 ⟨Jk,Jj,Jn,Jm,Jq⟩
theorem Jid{i:Nat}{cs:Array Value}{T:TypeId}{fr:Nat×Nat}(h:w.heap[b]?=some (.cells cs T fr))(hc:cs.setIfInBounds i v=cs):w.setCell ⟨b,i,none⟩ v=w:=by
 unfold World.setCell;cases w with
 | mk hp tape drawn os out =>
  simp only at h |-;congr 1;refine Array.ext_getElem? fun j=>?_
  rw[Array.getElem?_modify];split
  ·next e =>
   subst e;rw[h];simp[hc]
  ·rfl
theorem box_last(h:w.alloc (boxC s a d o false)=w7):w7.frozen? ⟨w.heap.size,4,none⟩=false/\w7.setCell ⟨w.heap.size,4,none⟩ (.bool false)=w7:=by
 subst h;exact⟨frozen_of_row _ _ 4 _ _ (heap_alloc_new _ _),Jid (heap_alloc_new _ _) rfl⟩
theorem Jd0(w:World)(x y:Obj):∃W:World,(w.alloc x).alloc y=W/\W.heap.size=w.heap.size+2/\W.heap[w.heap.size]?=some x/\W.heap[w.heap.size+1]?=some y/\Po w W:=by
 refine⟨_,rfl,Ke,Eq.trans (by first | exact Go.heap_alloc_old _ _ (show w.heap.size<_ by simp) | exact Go.heap_alloc_old _ _ _ (show w.heap.size<_ by simp)) (heap_alloc_new w _),?_,((Below.refl _ _).alloc Ph _).alloc Ke _⟩;have hh:=heap_alloc_new (w.alloc x) y;rw[show(w.alloc x).heap.size=w.heap.size+1 by simp] at hh;exact hh
theorem Jsu(w:World){ops:Array Oper}{rest:List Oper}{o:Oper}{a:Act}{Q:Exit->Act->World->Prop}(hgd:o.guard=none)(s x:Operand)
  (ho:o.op=.call { callee:=.builtin .append,args:=#[s,x],argTypes:=#[84,84] }) (base:Nat) (v:Value) (l:List Int) (m:Int) (hs:a.eval s=v) (hown:OwnI w base v l)
  (k:Nat) (cells:Array Value) (hk:w.heap[k]?=some (.cells cells 3 (0,0))) (hc:cells=#[.int .i64 m]) (hx:a.eval x=.slice (some ⟨k,0,none⟩) 1 1) (hb:base<=w.heap.size)
  (hl:l.length+1<=1099511627776) (h:∀v' w',OwnI w' base v' (l++[m])->w.grownBy w' v.ownBlock->(∀g,v'.ownBlock=some g->v.ownBlock=some g\/g=w.heap.size)->wpList prog ops Q rest (a.put o.dst v') w'):wpList prog ops Q (o::rest) a w:=by
 obtain⟨i,hi,hz,hsz,hby⟩:=info_parts Jic;refine Jdp w hgd s x 84 ho base 3 i _ 1 8 underlying84 hi hz hsz hby rfl Kd v l.length (ints l) hs hown ⟨k,0,none⟩ 1 1 (ints [m]) hx Ke ?_ (Jse [m]) Kr Ka hb ?_
 ·intro j u hu
  have hadd:(⟨k,0,none⟩:Addr).add j=⟨k,j,none⟩:=Ks;exact Qk
 ·intro v' w' h1 h2 h3
  refine h v' w' ?_ h2 h3;unfold OwnI ints;exact Qj
end
end Go.Proofs.YtpifdbphmnifdaaGreatDoor
