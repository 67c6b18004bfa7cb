/-
  Facts. Condition: each theorem's own.
-/
import Derived.StillTailTactics
import Derived.Test.YtpifdbphmnifdaaGreatDoorYF6
set_option maxRecDepth 100000
set_option maxHeartbeats 8000000
section
variable {p:Prop}
theorem Zq(h:p:=by go_enter func308,ntmps308;go_wp2_with fail;go_ret2;exact⟨⟨_,rfl⟩,rfl⟩):p:=h
theorem Zr(h:p:=by go_wp2_with fail;go_ret2;exact⟨⟨_,rfl⟩,rfl⟩):p:=h
theorem Zs(h:p:=by obtain⟨p,rfl⟩:=hw1;exact B7.out.trans ((below_regrown w7 p.d p.os).mono B7.out.size)):p:=h
theorem Zt(h:p:=by rintro e w1 ⟨rfl,b1⟩;go_wp2_with fail;go_ret;exact⟨rfl,b1⟩):p:=h
theorem Zu(h:p:=by rintro e w' ⟨n2,rfl,-,rfl⟩;go_wp2_with fail;go_ret2;exact⟨_,Jtf E.out.symm,by rw[An.out];exact OwnG.nil _ _ _ _ _,MB.out⟩):p:=h
theorem Zv(h:p:=by rintro e w5 ⟨rfl,b5⟩;have B5:Hid (Po w w5):=B4.out.trans (b5.mono B4.out.size);clear b5 C8;go_wp2_with fail;go_ret;exact⟨Jad R.out.symm,B5.out⟩):p:=h
theorem Zw(h:p:=by have HZ:=Pe hz;clear hz U hi n0 n1 hs;go_enter func308,ntmps308;go_wp2_with fail;go_ret2;exact⟨Jyz (by have:=HZ.out;omega),rfl⟩):p:=h
theorem Zx(h:p:=by go_wp2_with fail;go_ret;exact⟨Jac (by rw[IntKind.wrap_u64,IntKind.wrap_u64,IntKind.wrap_u64];unfold inT;exact decide_eq_decide.2 Ka),rfl⟩):p:=h
theorem Zy(h:p:=by go_wp2_with fail;go_ret;exact⟨Jac R.out,B3.out⟩):p:=h
theorem Zz(h:p:=by clear hs hl;go_enter func331,ntmps331;go_wp2_with fail;go_ret;exact⟨Jac R.out.symm,Pg⟩):p:=h
theorem Z0(h:p:=by clear HZ HN BM BT BN e2 h5;go_wp2_with fail;go_ret2;exact⟨ret_chk Va Va,B2.out⟩):p:=h
theorem Z8(h:p:=by rw[TL.out];exact n1):p:=h
theorem Xa(h:p:=by go_wp2_with fail;go_ret2;exact⟨ret_chk (by rw[E.out]) (by rw[E.out]),Pg⟩):p:=h
theorem Xb(h:p:=by have g5:decide (st+z<=172800)=false:=Pj Ka;clear hz U hi n2 n3;exact Zq):p:=h
theorem Xc(h:p:=by unfold wrap64;omega):p:=h
theorem Xd(h:p:=by rw[U];exact Pj Ka):p:=h
theorem Xe(h:p:=by rw[<-E1.out];exact h5):p:=h
theorem Xf(h:p:=by exact absurd (show s<b by rw[hs.out];exact(Ji0 HH.out k).1 h7) hlt):p:=h
theorem Xg(h:p:=by go_wp2_with fail;go_ret;exact⟨Jac (by rw[<-HR.out,N.out]),B8.out⟩):p:=h
theorem Xh(h:p:=by rw[<-hw1];exact(RowKit.Below.refl _ _).alloc Ph _):p:=h
theorem Xi(h:p:=by simpa using hj):p:=h
theorem Xj(h:p:=by go_wp2_with fail;go_ret2;exact⟨ret_chk Va Va,B1.out⟩):p:=h
end
open Go.Proofs.Tryz
namespace Go.Proofs.YtpifdbphmnifdaaGreatDoor
namespace S18
open Go.RowKit
attribute [local go_sem] Oper.semAt_some
theorem Jop(t a b v:Int)(w:World):Calls prog 332 #[fqV t a b v] w fun e w'=>e=.returned (.func (.func 359) #[] #[.pointer (some ⟨w.heap.size,0,none⟩)])/\w'=w.alloc (boxF t a b v):=by
 go_enter func332,ntmps332;exact Kc
variable {f g:Fq} {n q i bk n':Nat} {w W:World} {l:List Fq} {m:Bool} {st t a b:Int} {os:Array Obj} {cur args:Array Value} {T:TypeId}
theorem Qdc{α:Type}{J:α->World->Prop}{W':World}{s:α}(h:AbidesFrom n J)(hJ:J s W)(hb:Po W W'):J s W' :=
 h s W W' none hJ ⟨hb.os,hb.tape,hb.output,hb.size,fun k hk _=>hb.block k hk⟩ (fun r e=>by cases e)
theorem Jqv(t a b v:Int)(n bk:Nat)(hn:1<=n)(l:Nat)(J Jx:List Int->World->Prop)(W:World)(hJ:AbidesFrom W.heap.size J)(hc:W.heap[bk]?=some (boxF t a b v))
  (hY:∀(pre:List Int) (x:Int) W1,J pre W1->pre.length<172800->YieldAt Fence.wide (n - 1) prog l #[.int .i64 x] W1 fun e W'=>(e=.returned (.bool true)/\J (pre++[x]) W'/\W'.heap[bk]?=W1.heap[bk]?)\/(e=.returned (.bool false)/\Jx (pre++[x]) W')) (h0:J [] W) :
  CallsIn Fence.wide n prog 359 #[.func (.yield l) #[] #[],.pointer (some ⟨bk,0,none⟩)] W fun e W'=>(∃v,e=.returned v)/\((∃xs,xs=stsF (t,a,b,v)/\J xs W')\/(∃pre,pre <+: stsF (t,a,b,v)/\Jx pre W')):=by
 refine callsIn_of_wp func359 rfl trivial ?_ rfl;simp only[ntmps359,List.size_toArray,List.length_cons,List.length_nil,Nat.reduceAdd,Nat.reduceSub,Array.replicate_succ,Array.replicate_zero,List.push_toArray,List.append_toArray,List.nil_append,List.cons_append];obtain⟨p0,p1,p2,p3⟩:=Jbm hc;have S:=Pe (Jl3 t a b v W);have HY:=Pe hY;have HC:=Pe hc;have H0:=Pe h0;have HJ:=Pe hJ;have hbk:bk<W.heap.size:=(Pn hc).1;have HK:=Pe hbk;clear hc hY h0 hJ hbk;cases h:sndF (t,a,b,v) with
 | false =>
  have E:=Pe (Jyl h);rw[h] at S;clear h;gi_wp2_with (refine⟨trivial,?_⟩;gi_at_call 263;refine(callsIn_wide.2 S.out).mono ?_;rintro e w' ⟨rfl,b1⟩);refine bodyPost_ret (results_none rfl _ _ _) rfl ?_;exact⟨⟨_,rfl⟩,.inl ⟨[],E.out.symm,Qdc HJ.out H0.out b1⟩⟩
 | true =>
  have E:=Pe (Jhb h);obtain⟨h1,h2,h3,h4,h5⟩:=Jc7.1 h;have HH:=Pe h;have LE:=Pe (Jkl h);rw[h] at S;clear h;gi_wp2_with (refine⟨trivial,?_⟩;gi_at_call 263;refine(callsIn_wide.2 S.out).mono ?_;rintro e w' ⟨rfl,b1⟩;obtain⟨z0,z1,z2,z3⟩:=Jbm ((b1.block bk HK.out).trans HC.out));have J1:=Pe (Qdc HJ.out H0.out b1);have C1:Hid (w'.heap[bk]?=some (boxF t a b v)):=(b1.block bk HK.out).trans HC.out;clear b1 S z0 z1 z2 z3 p0 p1 p2 p3 HC H0;gi_loopw [3] (fun i wr=>∃(k:Nat) (s:Int),i=.int .i64 s/\Hid (s=nthF (t,a,b,v) k)/\0<=s/\Hid (k<=cntF (t,a,b,v))/\Hid (J ((lstF (t,a,b,v)).take k) wr)/\Hid (wr.heap[bk]?=some (boxF t a b v))) (fun i _=>(172800 - intOf i).toNat);case atStart=>exact⟨0,a,rfl,Pe (Jgk (t,a,b,v)).symm,h1,Pe (Nat.zero_le _),J1,C1⟩
  case round =>
   clear J1 C1;obtain⟨k,s,rfl,hs,hs0,hk,HJ1,HC1⟩:=hrel;obtain⟨q0,q1,q2,q3⟩:=Jbm HC1.out;by_cases hlt:s<b
   ·have hkc:k<cntF (t,a,b,v):=(Ji0 HH.out k).2 (by rw[<-hs.out];exact hlt)
    have N:=Pe (Jsz hkc);have N2:Hid (s+v=nthF (t,a,b,v) (k+1)):=by rw[Jsy,<-hs.out];exact rfl
    have K2:Hid (k+1<=cntF (t,a,b,v)):=hkc;have hlen:((lstF (t,a,b,v)).take k).length<172800:=by rw[List.length_take];have:=LE.out;omega
    rw[<-hs.out] at N;obtain⟨fn,tmps,assign,body,hy,hR⟩:=HY.out ((lstF (t,a,b,v)).take k) s _ HJ1.out hlen;have HR:=Pe hR;have HP:Hid ((lstF (t,a,b,v)).take k++[s] <+: stsF (t,a,b,v)):=by
     show _ <+: _
     rw[E.out,<-N.out];exact J9m _
    clear hkc hk hs hR hlen;gi_wp2;refine HR.out.mono ?_;rintro e W3 (⟨rfl,hJ3,hk3⟩ | ⟨rfl,hJx3⟩)
    ·have J3:Hid (J ((lstF (t,a,b,v)).take (k+1)) W3):=by
      show J _ _
      rw[N.out];exact hJ3
     have C3:Hid (W3.heap[bk]?=some (boxF t a b v)):=hk3.trans HC1.out;obtain⟨z0,z1,z2,z3⟩:=Jbm C3.out;clear hJ3 hk3 HC1 HJ1 q0 q1 q2 q3;gi_wp2;go_roundw
     case rel=>exact⟨k+1,s+v,Kj,N2,Ka,K2,J3,C3⟩
     case measure=>exact Q7
    ·have J3:=Pe hJx3
     clear hJx3 HC1 HJ1 q0 q1 q2 q3;gi_wp2;refine bodyPost_end (results_none rfl _ _ _) rfl ?_;exact⟨⟨_,rfl⟩,.inr ⟨_,HP.out,J3.out⟩⟩
   ·have d:decide (s<b)=false:=Pj hlt
    have hkc:k=cntF (t,a,b,v):=by
     have h6:=hk.out;rcases Nat.lt_or_ge k (cntF (t,a,b,v)) with h7 | h7
     ·exact Xf
     ·omega
    have O:=Pe HJ1.out;rw[hkc,Jyn,<-E.out] at O;clear hlt hkc hk hs HJ1;gi_wp2;refine⟨fun _ h=>Qi,?_⟩;gi_wp2;refine bodyPost_end (results_none rfl _ _ _) rfl ?_;exact⟨⟨_,rfl⟩,.inl ⟨_,rfl,O.out⟩⟩
open Go.RowKit Go.Sort
theorem Jvh{g:Nat}{e:TypeId}{fr:Nat×Nat}(d:Array Int)(hb:w.heap[g]?=some (.cells cur e fr)):
  (grow (putRow (Value.int .i64) (Sort.ahead w n) g 0 d) os).heap[g]?=some (.cells (putCells (Value.int .i64) 0 d cur) e fr):=by
 have hg:g<w.heap.size:=(Pn hb).1;rw[heap_grow_old _ _ (by simpa [putRow,mapBlock,Sort.ahead] using hg)];simp[putRow,mapBlock,Sort.ahead,Array.getElem?_modify,hb,onCells]
theorem Jqw{g base:Nat}(d:Array Int)(hb:base<=g)(hl:base<=w.heap.size):RowKit.Below base w (grow (putRow (Value.int .i64) (Sort.ahead w n) g 0 d) os):=by
 refine⟨rfl,rfl,rfl,by simp[putRow,mapBlock,Sort.ahead],fun j hj=>?_⟩;rw[heap_grow_old _ _ (by simp[putRow,mapBlock,Sort.ahead];omega)];have:g≠j:=Ka;simp[putRow,mapBlock,Sort.ahead,Array.getElem?_modify,this]
theorem Jvi{g:Nat}{l:List Int}(hb:w.heap[g]?=some (.cells cur T (0,0)))(ht:cur.toList.take l.length=ints l):Holds (Value.int .i64) w g 0 l.toArray:=by
 intro j hj;have hj':j<l.length:=Xi;refine⟨?_,by simp[World.frozen?,hb]⟩;have h1:(cur.toList.take l.length)[j]?=(ints l)[j]?:=by rw[ht]
 rw[List.getElem?_take_of_lt hj'] at h1;rw[cell_of_row w g (0+j) cur _ _ hb,Nat.zero_add,<-Array.getElem?_toList,h1];simp[hj']
theorem Jqx{g cap m:Nat}(l:List Int)(hb:w.heap[g]?=some (.cells cur T (0,0)))(hl:l.length<=cur.size)(hc:l.length<=cap):
  LstI (grow (putRow (Value.int .i64) (Sort.ahead w m) g 0 l.toArray) os) (.slice (some ⟨g,0,none⟩) l.length cap) l:=by
 have hh:=Jvh (n:=m) (os:=os) l.toArray hb;refine⟨some ⟨g,0,none⟩,cap,rfl,hc,fun h=>absurd h Ke,fun _=>⟨g,0,rfl,(Pn hh).1,fun j x hj=>?_⟩⟩;rw[Nat.zero_add,cell_of_row _ g j _ _ _ hh,<-hj];have hjl:j<l.length:=by
  have:=(Pm hj).1;rw[Pr] at this;exact this
 simp[putCells,hjl,show j<cur.size by omega]
attribute [local go_sem] Oper.semAt_some
theorem Jh1(t a b v:Int)(n bk:Nat)(hn:1<=n)(w0:World)(hc:w0.heap[bk]?=some (boxF t a b v)):
  SeqStopsK Fence.wide n prog 359 #[.pointer (some ⟨bk,0,none⟩)] (fun x:Int=>#[.int .i64 x]) (fun A B=>B.heap[bk]?=A.heap[bk]?) (fun xs=>xs=stsF (t,a,b,v)) (fun pre=>pre <+: stsF (t,a,b,v)) 172800 w0:=fun l J Jx W hW hJ _ hY h0 =>
 Jqv t a b v n bk hn l J Jx W hJ ((hW.block bk (Pn hc).1).trans hc) (fun pre x W1 h1 h2=>hY pre x W1 h1 h2) h0
theorem J7p{A B C:World}(h:B.heap[bk]?=A.heap[bk]?)(k:C.heap[bk]?=B.heap[bk]?):C.heap[bk]?=A.heap[bk]?:=k.trans h
theorem J7q(hb:bk<w.heap.size)(W:World)(l:Nat)(o o':Obj)(hl:w.heap.size<=l)(h:W.heap[l]?=some o)(_:o.isCells=false)(_:o.isWalk=false):(W.putObj l o').heap[bk]?=W.heap[bk]? :=
 (grownBy_putObj' W l o').block bk (by have:=(Pn h).1;omega) Kb
theorem Jtd{β:Type}(B bk:Nat)(t a b v:Int):OwnFrom B (fun(_:β) (W:World)=>W.heap[bk]?=some (boxF t a b v)):=by
 intro s W W' row hs hg hr;refine(hg.block bk (Pn hs).1 ?_).trans hs;intro e;obtain⟨o,ho,hc⟩:=(hr bk e.symm).2;rw[hs] at ho;cases ho;cases hc
theorem Jyw{cs:Array Value}{e:TypeId}{fr:Nat×Nat}(h:W.heap[bk]?=some (.cells cs T fr))(hte:T≠e){base size k:Nat}{v:Value}{xs:List Value}(hr:W.ownsRow base e size v k xs):some bk≠v.ownBlock:=by
 intro e';rcases hr.2 with⟨rfl,_⟩ | ⟨g,cap,cur,rfl,_,hg,_⟩
 ·simp[Value.ownBlock] at e'
 ·obtain rfl:bk=g:=by simpa [Value.ownBlock] using e'
  rw[h] at hg;cases hg;exact hte rfl
theorem Jte{w1:World}{n₀ M k:Nat}{v:Int}{u u':Value}{tmp:Obj}{xs:List Value}(hb:W.heap[bk]?=some (boxF t a b v))(hrow:W.ownsRow n₀ 3 1 u k xs)(hg:(W.alloc tmp).grownBy w1 u.ownBlock)(hne:bk≠M):(w1.setCell ⟨M,0,none⟩ u').heap[bk]?=W.heap[bk]?:=by
 have hlt:=(Pn hb).1;rw[Below.heap_setCell _ _ _ bk hne];exact(hg.block bk Kb (Jyw hb Kd hrow)).trans (by first | exact Go.heap_alloc_old _ _ hlt | exact Go.heap_alloc_old _ _ _ hlt)
theorem Jvj(t a b v:Int)(w:World):CallsIn Fence.wide 3 prog 265 #[fqV t a b v] w fun e W'=>∃u,e=.returned u/\OwnI W' w.heap.size u (stsF (t,a,b,v))/\Po w W':=by
 obtain⟨i0,hi,hz0,hz1,hz2⟩:=info_parts Jic;refine callsIn_of_wp_marks func265 rfl trivial ?_ rfl;simp only[ntmps265,List.size_toArray,List.length_cons,List.length_nil,Nat.reduceAdd,Nat.reduceSub,Array.replicate_succ,Array.replicate_zero,List.push_toArray,List.append_toArray,List.nil_append,List.cons_append];obtain⟨w7,hw7⟩:=Pi (w.alloc (boxF t a b v));obtain⟨b7,p0,p1,p2,p3,s7,c7⟩:=Jd8 hw7;obtain⟨w8,hw8⟩:=Pi (w7.alloc (.cells #[.slice none 0 0] 84 (0,0)));have b8:Po w7 w8:=by rw[<-hw8];exact(Below.refl _ _).alloc Ph _
 have x8:Boxed w8 w7.heap.size 84 (.slice none 0 0):=by rw[<-hw8];exact Boxed.new _ _ _
 obtain⟨q0,q1,q2,q3⟩:=Jbm ((b8.block _ s7).trans c7);have B8:Hid (Po w w8):=b7.trans (b8.mono b7.size);have z8:w.heap.size<w8.heap.size:=Ps s7 b8.size;have z7:w7.heap.size<w8.heap.size:=x8.lt;have Z7:w.heap.size<=w7.heap.size:=b7.size;obtain⟨w9,hw9⟩:=Pi (w8.alloc (boxF t a b v));obtain⟨b9,-,-,-,-,s9,c9⟩:=Jd8 hw9;have x9:Boxed w9 w7.heap.size 84 (.slice none 0 0):=(b9.block _ z7).trans x8;have B9:Po w w9:=B8.out.trans (b9.mono B8.out.size);clear b7 b8 c7 s7 p0 p1 p2 p3 b9;gi_wp2_with (refine⟨trivial,?_⟩;gi_at_call 332;refine(callsIn_wide.2 (Jop t a b v _)).mono ?_;rintro e w' ⟨rfl,rfl⟩);clear hw9 hw8 hw7;refine wpIn_rangeFunc_ownG rfl (show 1<=3 by decide) (gf:=359) (lb:=#[.pointer (some ⟨w8.heap.size,0,none⟩)]) rfl trivial (enters_of func359 Kl rfl)
  (Jh1 t a b v (3 - 1) w8.heap.size Kd w9 c9) J7p (J7q s9) Pg (fun _=>rfl)
  (fun pre W=>(∃u,Boxed W w7.heap.size 84 u/\W.ownsRow w.heap.size 3 1 u pre.length (ints pre)/\True)/\Po w W/\W.heap[w8.heap.size]?=some (boxF t a b v))
  (fun _ _ _=>False)
  (OwnFrom.and (Own.from (holdsRow_own w.heap.size w7.heap.size 84 3 1 (fun pre=>pre.length) (fun pre=>ints pre) (fun _ _=>True)) _) (OwnFrom.and (ownFrom_below Ph Ka) (Jtd _ _ t a b v)))
  (fun _ _ _ _ _ hs _ _=>hs)
  ⟨⟨_,x9,World.ownsRow_nil _ _ _ _,trivial⟩,B9,c9⟩
  (fun x=>{ tmps:=#[fqV t a b v,.pointer (some ⟨w.heap.size,0,none⟩),.slice none 0 0,.pointer (some ⟨w7.heap.size,0,none⟩),.int .i64 x,fqV t a b v,.func (.func 359) #[] #[.pointer (some ⟨w8.heap.size,0,none⟩)],.int .i64 x,undef,undef,undef,undef,undef],defers:=[] }) ?assign ?body ?done ?stop
 case assign =>
  intro l x W K hK;gi_wp2;exact hK
 case body =>
  rintro l pre x W ⟨⟨u,hv,hrow,-⟩,hB,hX⟩ hlt;have hc:=hv.cell;gi_wp2_with (gi_at_builtin;refine wpListIn_append_own _ rfl _ _ 84 rfl w.heap.size 3 i0 (.int .i64 0) 1 8 underlying84 hi hz0 hz1 hz2 rfl Kd _ _ _ rfl (hrow.alloc _) ⟨W.heap.size,0,none⟩ 1 1 [.int .i64 x] rfl rfl (cell_one_new _ _ _) (by simp[Value.oneCell']) Kr Ka (by have:=hB.size;simp;omega) ?_;intro v' w1 hown' hgrow _;obtain⟨g',cap',rfl⟩:=ownsRow_succ hown';obtain⟨hv1,hv2,hr2,hk2,hb2⟩:=hv.appended Kd hrow hB.size Z7 hown' hgrow;have hkp:=Jte (u':=.slice (some ⟨g',0,none⟩) (pre.length+1) cap') hX hrow hgrow (show w8.heap.size≠w7.heap.size by omega);have hc1:=hv1.cell;have hf1:=hv1.frozen);exact⟨hk2.from _,hkp,⟨_,hv2,by simpa using hr2,trivial⟩,hB.trans hb2,hkp.trans hX⟩
 case done =>
  rintro D ys W hD rfl ⟨⟨u,hv,hrow,-⟩,hB,hX⟩ hK;have hc:=hv.cell;gi_wp2;refine⟨Ke,.inl ⟨_,_,rfl,run_takeDeferred hK,?_⟩⟩;exact⟨_,results_tmp rfl _ _ _,u,rfl,ownsRow_putObj hrow _ hK rfl,hB.trans (belowK_b (w:=w) Ph W D _ _ Ka hK rfl rfl)⟩
 case stop =>
  exact Jw
theorem Jqy(t a b v:Int)(w:World):Calls prog 265 #[fqV t a b v] w fun e W'=>∃u,e=.returned u/\OwnI W' w.heap.size u (stsF (t,a,b,v))/\Po w W':=callsIn_wide.1 (Jvj t a b v w)
open Go.RowKit Go.Shelf Go.Sort
attribute [local go_sem] Oper.semAt_some
theorem Jyx(t a b v:Int)(M:Nat)(u0:Value)(l:List Int)(hl:l.length<=1000000000)(w:World)(h0:Boxed w M 84 u0)(hr0:w.ownsRow M 3 1 u0 l.length (ints l)):
  CallsIn Fence.wide 3 prog 333 #[fqV t a b v,.pointer (some ⟨M,0,none⟩)] w fun e W'=>e=.returned (.tuple #[])/\∃u,Boxed W' M 84 u/\W'.ownsRow M 3 1 u (l++stsF (t,a,b,v)).length (ints (l++stsF (t,a,b,v)))/\RowKit.Below M w W':=by
 obtain⟨i0,hi,hz0,hz1,hz2⟩:=info_parts Jic;refine callsIn_of_wp_marks func333 rfl trivial ?_ rfl;simp only[ntmps333,List.size_toArray,List.length_cons,List.length_nil,Nat.reduceAdd,Nat.reduceSub,Array.replicate_succ,Array.replicate_zero,List.push_toArray,List.append_toArray,List.nil_append,List.cons_append];have hM:=h0.lt;obtain⟨w7,hw7⟩:=Pi (w.alloc (boxF t a b v));obtain⟨b7,p0,p1,p2,p3,s7,c7⟩:=Jd8 hw7;have x7:Boxed w7 M 84 u0:=(b7.block _ hM).trans h0;have r7:w7.ownsRow M 3 1 u0 l.length (ints l):=Jfe hr0 b7;obtain⟨w9,hw9⟩:=Pi (w7.alloc (boxF t a b v));obtain⟨b9,-,-,-,-,s9,c9⟩:=Jd8 hw9;have x9:Boxed w9 M 84 u0:=(b9.block _ x7.lt).trans x7;have r9:w9.ownsRow M 3 1 u0 l.length (ints l):=Jfe r7 b9;have B9:RowKit.Below M w w9:=(b7.mono (Nat.le_of_lt hM)).trans (b9.mono (Nat.le_of_lt x7.lt));have hMz:M<w7.heap.size:=x7.lt;clear b7 c7 s7 b9 x7 r7 h0 hr0;gi_wp2_with (refine⟨trivial,?_⟩;gi_at_call 332;refine(callsIn_wide.2 (Jop t a b v _)).mono ?_;rintro e w' ⟨rfl,rfl⟩);clear hw9 hw7;refine wpIn_rangeFunc_ownG rfl (show 1<=3 by decide) (gf:=359) (lb:=#[.pointer (some ⟨w7.heap.size,0,none⟩)]) rfl trivial (enters_of func359 Kl rfl)
  (Jh1 t a b v (3 - 1) w7.heap.size Kd w9 c9) J7p (J7q s9) (RowKit.Below.refl _ _) (fun _=>rfl)
  (fun pre W=>(∃u,Boxed W M 84 u/\W.ownsRow M 3 1 u (l++pre).length (ints (l++pre))/\True)/\RowKit.Below M w W/\W.heap[w7.heap.size]?=some (boxF t a b v))
  (fun _ _ _=>False)
  (OwnFrom.and (Own.from (holdsRow_own M M 84 3 1 (fun pre=>(l++pre).length) (fun pre=>ints (l++pre)) (fun _ _=>True)) _) (OwnFrom.and (ownFrom_below Ka Ka) (Jtd _ _ t a b v)))
  (fun _ _ _ _ _ hs _ _=>hs)
  ⟨⟨_,x9,by rw[List.append_nil];exact r9,trivial⟩,B9,c9⟩
  (fun x=>{ tmps:=#[fqV t a b v,.pointer (some ⟨M,0,none⟩),.pointer (some ⟨w.heap.size,0,none⟩),.int .i64 x,fqV t a b v,.func (.func 359) #[] #[.pointer (some ⟨w7.heap.size,0,none⟩)],.int .i64 x,undef,undef,undef,undef],defers:=[] }) ?assign ?body ?done ?stop
 case assign =>
  intro l x W K hK;gi_wp2;exact hK
 case body =>
  rintro lb pre x W ⟨⟨u,hv,hrow,-⟩,hB,hX⟩ hlt;have hc:=hv.cell;have hlen:(l++pre).length<=2000000000:=by rw[Pq];omega
  have hWM:M<=W.heap.size:=Nat.le_of_lt hv.lt;have eap:l++(pre++[x])=(l++pre)++[x]:=(List.append_assoc _ _ _).symm;obtain⟨q,hq⟩:=Pi (l++pre);rw[hq] at hrow hlen eap;have EQ:=Pe eap;clear eap hq;gi_wp2_with (gi_at_builtin;refine wpListIn_append_own _ rfl _ _ 84 rfl M 3 i0 (.int .i64 0) 1 8 underlying84 hi hz0 hz1 hz2 rfl Kd _ _ _ rfl (hrow.alloc _) ⟨W.heap.size,0,none⟩ 1 1 [.int .i64 x] rfl rfl (cell_one_new _ _ _) (by simp[Value.oneCell']) Kr Ka Kb ?_;intro v' w1 hown' hgrow _;obtain⟨g',cap',rfl⟩:=ownsRow_succ hown';obtain⟨hv1,hv2,hr2,hk2,hb2⟩:=hv.appended Kd hrow hWM Ph hown' hgrow;have hkp:=Jte (u':=.slice (some ⟨g',0,none⟩) (q.length+1) cap') hX hrow hgrow (show w7.heap.size≠M by omega);have hc1:=hv1.cell;have hf1:=hv1.frozen);exact⟨hk2.from _,hkp,⟨_,hv2,by rw[EQ.out];simpa using hr2,trivial⟩,hB.trans hb2,hkp.trans hX⟩
 case done =>
  rintro D ys W hD rfl ⟨⟨u,hv,hrow,-⟩,hB,hX⟩ hK;gi_wp2;refine⟨Ke,.inl ⟨_,_,rfl,run_takeDeferred hK,?_⟩⟩;have hvD:=hv.kept (grownBy_putObj' W D (.deferred none)) Kb;exact⟨_,results_none rfl _ _ _,rfl,u,hvD,ownsRow_putObj hrow _ hK rfl,hB.trans (belowK_b (w:=w9) Ka W D _ _ hD hK rfl rfl)⟩
 case stop =>
  exact Jw
theorem Jvk(t a b v:Int)(M:Nat)(u0:Value)(l:List Int)(hl:l.length<=1000000000)(w:World)(h0:Boxed w M 84 u0)(hr0:w.ownsRow M 3 1 u0 l.length (ints l)):
  Calls prog 333 #[fqV t a b v,.pointer (some ⟨M,0,none⟩)] w fun e W'=>e=.returned (.tuple #[])/\∃u,Boxed W' M 84 u/\W'.ownsRow M 3 1 u (l++stsF (t,a,b,v)).length (ints (l++stsF (t,a,b,v)))/\RowKit.Below M w W':=callsIn_wide.1 (Jyx t a b v M u0 l hl w h0 hr0)
def J34(w:World)(t:Int)(l:List Fq)(k:Nat)(wr:World):Prop :=
 ∃u,Boxed wr w.heap.size 84 u/\wr.ownsRow w.heap.size 3 1 u (insF t (l.take k)).length (ints (insF t (l.take k)))/\RowKit.Below w.heap.size w wr
theorem Jyy(vl:Value)(l:List Fq)(hl:l.length<=5000)(tr:Int)(w:World)(h:LstF w vl l):
  Calls prog 266 #[vl,.int .i64 tr] w fun e w'=>∃u,e=.returned u/\LstI w' u (srtI (insF tr l))/\RowKit.Below w.heap.size w w':=by
 have H:=Pe h;obtain⟨A,n,rfl,-,-,-⟩:=h;obtain⟨w1,hw1⟩:=Pi (w.alloc (.cells #[.slice none 0 0] 84 (0,0)));have b1:RowKit.Below w.heap.size w w1:=Xh;have x1:Boxed w1 w.heap.size 84 (.slice none 0 0):=by rw[<-hw1];exact Boxed.new _ _ _
 have M1:Hid (J34 w tr l 0 w1):=⟨_,x1,World.ownsRow_nil _ _ _ _,b1⟩;clear b1 x1;go_enter func266,ntmps266;go_wp2_with fail;go_loopw [12] (fun i wr=>∃k:Nat,i=.int .i64 k/\k<=l.length/\Hid (J34 w tr l k wr)) (fun i _=>l.length - (intOf i).toNat);case atStart=>exact⟨0,rfl,Nat.zero_le _,M1⟩
 case round =>
  clear M1 hw1;obtain⟨k,rfl,hk,HM⟩:=hrel;obtain⟨u,hx,hr,hb⟩:=HM.out;by_cases hlt:k<l.length
  ·obtain⟨⟨t,a,b,v⟩,hf⟩:=Jah hlt
   obtain⟨p,o,rfl,hp,m0,m1,m2,m3⟩:=four_at (H.out.below hb) hf;have gk:(k:Int)<(l.length:Int):=Ka;obtain⟨w7,hw7⟩:=Pi (wr.alloc (boxF t a b v));obtain⟨b7,p0,p1,p2,p3,s7,c7⟩:=Jd8 hw7;have x7:Boxed w7 w.heap.size 84 u:=(b7.block _ hx.lt).trans hx;have r7:=Jfe hr b7;have B7:Hid (RowKit.Below w.heap.size w w7):=hb.trans (b7.mono hb.size);have hlen:(insF tr (l.take k)).length<=1000000000:=by
    have:=Js0 tr (l.take k);have h2:(l.take k).length<=5000:=J8;omega
   by_cases ht:t=tr
   ·have g:=Jag ht
    have C:=Pe (Jvk t a b v w.heap.size u (insF tr (l.take k)) hlen w7 x7 r7);have N:=Pe (Jyo (t:=tr) hf ht);clear hf hp b7 c7 x7 r7 HM hx hr hb hlen ht;go_wp2_with fail;refine C.out.mono ?_;rintro e w8 ⟨rfl,u8,x8,r8,b8⟩;have M8:Hid (J34 w tr l (k+1) w8):=⟨u8,x8,by rw[N.out];exact r8,B7.out.trans b8⟩;clear x8 r8 b8 C N B7;go_wp2_with fail;go_roundw;case rel=>exact⟨k+1,Kj,Ka,M8⟩
    case measure=>exact Q7
   ·have g:=Jaa ht
    have M8:Hid (J34 w tr l (k+1) w7):=⟨u,x7,by rw[J7k hf ht];exact r7,B7.out⟩;clear hf hp b7 c7 x7 r7 HM hx hr hb hlen ht;go_wp2_with fail;go_roundw;case rel=>exact⟨k+1,Kj,Ka,M8⟩
    case measure=>exact Q7
  ·have dk:decide (k<l.length)=false:=Kg
   rw[List.take_of_length_le Ka] at hr;have hel:=Js0 tr l;generalize hE:insF tr l=E at hr hel;have VE:=Pe hE;clear hE;have hc:=hx.cell;have hM:=hx.lt;have BB:=Pe hb;clear hlt hk HM hb;rcases hr.2 with⟨rfl,h0⟩ | ⟨g,cap,cur,rfl,hbg,hg,hn,hm,hcs,ht⟩
   ·have S0:=Pe (fun W=>Tryz.slices_Sort_int_none none 0 W)
    have V0:Hid (E=[]):=List.length_eq_zero_iff.1 h0;clear hr hel h0;go_wp2_with fail;refine(S0.out _).mono ?_;rintro e w' ⟨rfl,rfl⟩;go_wp2_with fail;go_ret;exact⟨_,rfl,by rw[VE.out,V0.out,Jsx];exact LstI.nil _,BB.out⟩
   ·by_cases hz:E.length=0
    ·have S0:=Pe (fun W=>Tryz.slices_Sort_int_none (some ⟨g,0,none⟩) cap W)
     have V0:Hid (E=[]):=List.length_eq_zero_iff.1 hz;rw[hz] at hc;clear hr hel hz hg hn hm hcs ht;go_wp2_with fail;refine(S0.out _).mono ?_;rintro e w' ⟨rfl,rfl⟩;go_wp2_with fail;go_ret;exact⟨_,rfl,by rw[VE.out,V0.out,Jsx];exact⟨_,_,rfl,Nat.zero_le _,fun h=>absurd h Ke,fun h=>absurd h (Nat.lt_irrefl _)⟩,BB.out⟩
    ·have hgl:g<wr.heap.size:=(Pn hg).1
     have hgM:w.heap.size≠g:=fun e=>by
      have h1:wr.heap[w.heap.size]?=_:=hx;rw[e,hg] at h1;cases h1
     rw[Nat.mul_one] at ht;have S1:=Tryz.slices_Sort_int g 0 cap E wr (Jvi hg ht) hgl Ka;have FIN:Hid (∀(n:Nat) (os:Array Obj),LstI (grow (putRow (Value.int .i64) (Sort.ahead wr n) g 0 (srtI E).toArray) os) (.slice (some ⟨g,0,none⟩) E.length cap) (srtI E)/\RowKit.Below (w.heap.size+1) wr (grow (putRow (Value.int .i64) (Sort.ahead wr n) g 0 (srtI E).toArray) os)):=by
      intro n os;have q:=Jqx (m:=n) (os:=os) (cap:=cap) (srtI E) hg (by rw[Jie];omega) (by rw[Jie];exact hn);rw[Jie] at q;exact⟨q,Jqw _ Ka Ka⟩
     have SS:=Pe S1;have HX:=Pe hx;clear hr hel hg hn hm hcs ht S1 hz hgl hx;go_wp2_with fail;refine SS.out.mono ?_;rintro e w2 ⟨rfl,n,os,hw2⟩;have K:=Pe (FIN.out n os);rw[<-show w2=grow (putRow (Value.int .i64) (Sort.ahead wr n) g 0 (srtI E).toArray) os from hw2] at K;have x2:Boxed w2 w.heap.size 84 (.slice (some ⟨g,0,none⟩) E.length cap):=(K.out.2.block _ Ka).trans HX.out;have c2:=x2.cell;clear hw2 FIN SS x2 hc;go_wp2_with fail;go_ret;exact⟨_,rfl,by rw[VE.out];exact K.out.1,BB.out.trans (K.out.2.mono Ka)⟩
theorem Jkp(t d st:Int)(h0:0<=st)(h1:st<=172800)(ht:-9223372036854775808<=t/\t<=9223372036854775807)(hd:-9223372036854775808<=d/\d<=9223372036854775807)(w:World):Pb 358 #[.int .i64 t,.int .i64 d,.int .i64 st] w (.bool (inT d st t)):=by
 by_cases h:t<d
 ·go_enter func358,ntmps358
  exact Zx
 ·have g:decide (t<d)=false:=Pj h
  go_enter func358,ntmps358;exact Zx
theorem Jl4{x y:Int}(h:y<=x)(hx:-9223372036854775808<=x/\x<=9223372036854775807)(hy:-9223372036854775808<=y/\y<=9223372036854775807):IntKind.u64.wrap (IntKind.u64.wrap x - IntKind.u64.wrap y)=x - y:=by
 rw[IntKind.wrap_u64,IntKind.wrap_u64,IntKind.wrap_u64];omega
theorem Jyz(h:a=b):Ending.returned (.tuple #[.int .i64 a,.bool true])=.returned (.tuple #[.int .i64 b,.bool true]):=Qc
theorem J35(t d st:Int)(hs:0<=st/\st<=172800)(hi:0<=t - d+st/\t - d+st<=172800)(ht:-9223372036854775808<=t/\t<=9223372036854775807)(hd:-9223372036854775808<=d/\d<=9223372036854775807)(w:World):Pb 308 #[.int .i64 t,.int .i64 st,.int .i64 d] w (.tuple #[.int .i64 (t - d+st),.bool true]):=by
 have n0:¬st<0:=Ka;have n1:¬172800<st:=Ka;have g0:decide (st<0)=false:=Pj n0;have g1:decide (172800<st)=false:=Pj n1;by_cases h:d<=t
 ·have U:=Jl4 h ht hd
  have g3:decide (172800<IntKind.u64.wrap (IntKind.u64.wrap t - IntKind.u64.wrap d))=false:=Xd;obtain⟨z,hz⟩:∃z,z=t - d:=⟨_,rfl⟩;have z0:-172800<=z:=Ka;have z1:z<=172800:=Ka;have W1:wrap64 (t - d)=z:=Xc;have y0:0<=st+z:=Ka;have y1:st+z<=172800:=Ka;exact Zw
 have U:=Jl4 (show t<=d by omega) hd ht;have g2:decide (d<=t)=false:=Pj h;have g3:decide (172800<IntKind.u64.wrap (IntKind.u64.wrap d - IntKind.u64.wrap t))=false:=Xd;obtain⟨z,hz⟩:∃z,z=t - d:=⟨_,rfl⟩;have z0:-172800<=z:=Ka;have z1:z<=172800:=Ka;have W1:wrap64 (t - d)=z:=Xc;have y0:0<=st+z:=Ka;have y1:st+z<=172800:=Ka;exact Zw
theorem J9s(t d st:Int)(hi:¬((0<=st/\st<=172800)/\0<=t - d+st/\t - d+st<=172800))(ht:-9223372036854775808<=t/\t<=9223372036854775807)(hd:-9223372036854775808<=d/\d<=9223372036854775807)(w:World):Calls prog 308 #[.int .i64 t,.int .i64 st,.int .i64 d] w fun e w'=>(∃n:Int,e=.returned (.tuple #[.int .i64 n,.bool false]))/\w=w':=by
 by_cases n0:st<0
 ·go_enter func308,ntmps308
  exact Zr
 by_cases n1:172800<st
 ·have g0:decide (st<0)=false:=Pj n0
  exact Zq
 have g0:decide (st<0)=false:=Pj n0;have g1:decide (172800<st)=false:=Pj n1;by_cases h:d<=t
 ·have U:=Jl4 h ht hd
  by_cases n2:172800<t - d
  ·have g3:decide (172800<IntKind.u64.wrap (IntKind.u64.wrap t - IntKind.u64.wrap d))=true:=by rw[U];exact Pk n2
   clear n2 U hi;exact Zq
  have g3:decide (172800<IntKind.u64.wrap (IntKind.u64.wrap t - IntKind.u64.wrap d))=false:=Xd;obtain⟨z,hz⟩:∃z,z=t - d:=⟨_,rfl⟩;have z0:-172800<=z:=Ka;have z1:z<=172800:=Ka;have W1:wrap64 (t - d)=z:=Xc;by_cases n3:st+z<0
  ·have g4:decide (0<=st+z)=false:=Pj Ka
   clear hz U hi n2 n3;exact Zq
  have y0:0<=st+z:=Ka;exact Xb
 have U:=Jl4 (show t<=d by omega) hd ht;have g2:decide (d<=t)=false:=Pj h;by_cases n2:172800<d - t
 ·have g3:decide (172800<IntKind.u64.wrap (IntKind.u64.wrap d - IntKind.u64.wrap t))=true:=by rw[U];exact Pk n2
  clear n2 U hi;exact Zq
 have g3:decide (172800<IntKind.u64.wrap (IntKind.u64.wrap d - IntKind.u64.wrap t))=false:=Xd;obtain⟨z,hz⟩:∃z,z=t - d:=⟨_,rfl⟩;have z0:-172800<=z:=Ka;have z1:z<=172800:=Ka;have W1:wrap64 (t - d)=z:=Xc;by_cases n3:st+z<0
 ·have g4:decide (0<=st+z)=false:=Pj Ka
  clear hz U hi n2 n3;exact Zq
 have y0:0<=st+z:=Ka;exact Xb
theorem Joq(v:Value)(l:List Cl)(hl:l.length<=1000000)(hs:OkS l)(st:Int)(w:World)(h:LstC w v l):Pc 331 #[v,.int .i64 st] w (.bool (fitC l st)):=by
 have H:=Pe h;obtain⟨A,n,rfl,-,-,-⟩:=h;by_cases n0:st<0
 ·have R:=Pe (Jqt (l:=l) (st:=st) Ka)
  exact Zz
 by_cases n1:172800<st
 ·have g0:decide (st<0)=false:=Pj n0
  have R:=Pe (Jqt (l:=l) (st:=st) Ka);exact Zz
 have g0:decide (st<0)=false:=Pj n0;have g1:decide (172800<st)=false:=Pj n1;have HS:=Pe hs;have z0:0<=st:=Ka;have z1:st<=172800:=Ka;clear hs;obtain⟨R,hR⟩:=Pi (fitC l st);rw[hR];have HR:=Pe hR;clear hR;go_enter func331,ntmps331;go_wp2_with fail;go_loopw [16] (fun i wr=>∃k:Nat,i=.int .i64 k/\k<=l.length/\Hid (∀(j:Nat) x,j<k->l[j]?=some x->fitX (dpF l) st x=true)/\Hid (Po w wr)) (fun i _=>l.length - (intOf i).toNat);case atStart=>exact⟨0,rfl,Nat.zero_le _,Pe (fun j x hj=>absurd hj (Nat.not_lt_zero _)),Pe Pg⟩
 case round =>
  clear g0 g1 n0 n1;obtain⟨k,rfl,hk,hall,HB⟩:=hrel;by_cases hlt:k<l.length
  ·obtain⟨⟨x,xa,xd,o,u⟩,hx⟩:=Jah hlt
   obtain⟨⟨y,ya,yd,yo,yu⟩,hy⟩:=Jah (l:=l) (k:=0) Ka;have HW:=Pe (H.out.below HB.out);obtain⟨b,g',rfl,hb,r0,r1,r2,r3,r4⟩:=Ja6 HW.out hx;have gk:(k:Int)<(l.length:Int):=Ka;have gl:(0:Int)<(l.length:Int):=Ka;obtain⟨w8,hw8⟩:=Pi (wr.alloc (.cells #[.int .i64 x,.int .i64 xa,.int .i64 xd,.bool o,.bool u] 58 (0,0)));obtain⟨b8,q0,q1,q2,q3,q4,s8⟩:=Jki hw8;obtain⟨b',f',e',hb',m0,m1,m2,m3,m4⟩:=Ja6 (HW.out.below b8) hy;cases e';rw[Nat.zero_mul,Nat.add_zero] at m0 m1 m2 m3 m4;have hd:dpF l=yd:=Qc9 hy;have ox:=HS.out.all hx;have oy:=HS.out.all hy;have B8:Hid (Po w w8):=HB.out.trans (b8.mono HB.out.size);have C1:=Pe (Jkp xa yd st z0 z1 ox.2.1 oy.2.2 w8);have C2:=Pe (Jkp xd yd st z0 z1 ox.2.2 oy.2.2 w8);rw[hd] at hall;clear b8 hb hb' HB HW ox oy;cases c1:inT yd st xa with
   | false =>
    rw[c1] at C1;have N:=Pe (Jl0 hx (by rw[hd];exact Js1 c1));clear hx hy hd hall c1;go_wp2_with fail;refine Pf C1.out ?_;exact Xg
   | true =>
    rw[c1] at C1;cases c2:inT yd st xd with
    | false =>
     rw[c2] at C2;have N:=Pe (Jl0 hx (by rw[hd];exact Js2 c2));clear hx hy hd hall c1 c2;go_wp2_with fail;refine Pf C1.out ?_;go_wp2_with fail;refine Pf C2.out ?_;exact Xg
    | true =>
     rw[c2] at C2;have N:Hid (∀(j:Nat) x,j<k+1->l[j]?=some x->fitX (dpF l) st x=true):=by
      intro j z hj hz;by_cases hjk:j<k
      ·rw[hd];exact hall.out j z hjk hz
      ·obtain rfl:j=k:=Ka
       rw[hx] at hz;obtain rfl:=Pp hz;rw[hd];exact Js3 c1 c2
     clear hx hy hd hall c1 c2;go_wp2_with fail;refine Pf C1.out ?_;go_wp2_with fail;refine Pf C2.out ?_;go_wp2_with fail;go_roundw;case rel=>exact⟨k+1,Kj,Ka,N,B8⟩
     case measure=>exact Q7
  ·have N:=Pe (Jl1 (l:=l) ⟨z0,z1⟩ (fun j x hj=>hall.out j x Qx hj))
   have d:decide (k<l.length)=false:=Kg;clear hall hlt;go_wp2_with fail;go_ret;exact⟨Jac (by rw[<-HR.out,N.out]),HB.out⟩
theorem Jtf{v:Value}(h:a=b):Ending.returned (.tuple #[v,.int .i64 a])=.returned (.tuple #[v,.int .i64 b]):=Qc
theorem int_cell{A:Option Addr}{c:Nat}{l:List Int}(h:LstI w (.slice A n c) l){i:Nat}{x:Int}(hs:l[i]?=some x):∃b f,A=some ⟨b,f,none⟩/\b<w.heap.size/\w.cell? ⟨b,f+i,none⟩=some (.int .i64 x):=by
 obtain⟨A',c',hv,_,_,hx⟩:=h;cases hv;have hi:=(Pm hs).1;obtain⟨b,f,rfl,hb,hcell⟩:=hx Ka;exact⟨b,f,rfl,hb,hcell i _ (Jxe l i x hs)⟩
theorem J36(v:Value)(l:List Cl)(hl:l.length<=1000000)(hs:OkS l)(u:Value)(ls:List Int)(hn:ls.length<=172800)(x y:Int)(hx:ls[0]?=some x)(hy:ls[ls.length - 1]?=some y)(w:World)(h:LstC w v l)(hu:LstI w u ls):Pc 264 #[v,u] w (.bool (fitC l x&&fitC l y)):=by
 have h0:=(Pm hx).1;obtain⟨A,c,rfl,-,-,-⟩:=id hu;obtain⟨b,f,rfl,hb,m0⟩:=int_cell hu hx;obtain⟨b',f',e',-,m1⟩:=int_cell hu hy;cases e';rw[Nat.add_zero] at m0;have C1:=Pe (Joq v l hl hs x w h);have C2:=Pe (fun W (hb:Po w W)=>Joq v l hl hs y W (h.below hb));obtain⟨n,hN⟩:=Pi (ls.length);rw[hN] at m1 h0 hn |-;obtain⟨k,hk⟩:=Pi (n - 1);rw[hk] at m1;have e1:(n:Int) - 1=(k:Int):=Ka;have kle:k<=172800:=Ka;have kn:(k:Int)<(n:Int):=Ka;have gn:(0:Int)<(n:Int):=Ka;have HB:=Pe hb;obtain⟨A1,n1,rfl,-,-,-⟩:=h;clear hs hu hx hy hN hk hb;cases c1:fitC l x with
 | false =>
  rw[c1] at C1;clear c1;go_enter func264,ntmps264;go_wp2_with fail;refine C1.out.mono ?_;exact Zt
 | true =>
  rw[c1] at C1;clear c1;go_enter func264,ntmps264;go_wp2_with fail;refine C1.out.mono ?_;rintro e w1 ⟨rfl,b1⟩;have m2:=(b1.cell (p:=⟨b,f+k,none⟩) HB.out).trans m1;have B1:=Pe b1;have C3:=Pe (C2.out w1 b1);clear b1 C1 C2 m0 m1;go_wp2_with fail;refine C3.out.mono ?_;rintro e w2 ⟨rfl,b2⟩;have B2:Hid (Po w w2):=B1.out.trans (b2.mono B1.out.size);clear b2;go_wp2_with fail;go_ret;exact⟨rfl,B2.out⟩
theorem J37(t a b v:Int)(w:World):Calls prog 235 #[fqV t a b v] w fun e w'=>∃u,e=.returned u/\OwnI w' w.heap.size u (stsF (t,a,b,v))/\Po w w':=by
 obtain⟨w7,hw7⟩:=Pi (w.alloc (boxF t a b v));obtain⟨b7,p0,p1,p2,p3,s7,c7⟩:=Jd8 hw7;have B7:=Pe b7;have C7:=Pe c7;have S7:=Pe s7;have C1:=Pe (Jta t a b v w7);clear b7 c7 s7;cases h:sndF (t,a,b,v) with
 | false =>
  rw[h] at C1;have E:=Pe (Jyl h);clear h;go_enter func235,ntmps235;go_wp2_with fail;refine C1.out.mono ?_;rintro e w1 ⟨rfl,b1⟩;have B1:Hid (Po w w1):=B7.out.trans (b1.mono B7.out.size);clear b1 C1;go_wp2_with fail;go_ret;exact⟨_,rfl,by rw[E.out];exact OwnI.nil _ _,B1.out⟩
 | true =>
  rw[h] at C1;have E:=Pe (Jhb h);obtain⟨h1,h2,h3,h4,h5⟩:=Jc7.1 h;have HH:=Pe h;have LE:=Pe (Jkl h);clear h;go_enter func235,ntmps235;go_wp2_with fail;refine C1.out.mono ?_;rintro e w1 ⟨rfl,b1⟩;have B1:Hid (Po w w1):=B7.out.trans (b1.mono B7.out.size);have C8:Hid (w1.heap[w.heap.size]?=some (boxF t a b v)):=(b1.block _ S7.out).trans C7.out;have S8:Hid (w.heap.size<w1.heap.size):=Ps S7.out b1.size;obtain⟨q0,q1,q2,q3⟩:=Jbm C8.out;clear b1 C1 p0 p1 p2 p3 hw7;go_wp2_with fail;go_loopw [3,4] (fun o i wr=>∃(k:Nat) (s:Int),i=.int .i64 s/\Hid (s=nthF (t,a,b,v) k)/\0<=s/\Hid (k<=cntF (t,a,b,v))/\Hid (OwnI wr w1.heap.size o ((lstF (t,a,b,v)).take k))/\Hid (Po w1 wr)) (fun _ i _=>(172800 - intOf i).toNat);case atStart=>exact⟨0,a,rfl,Pe (Jgk (t,a,b,v)).symm,h1,Pe (Nat.zero_le _),Pe (OwnI.nil _ _),Pe Pg⟩
  case round =>
   clear q0 q1 q2 q3;obtain⟨k,s,rfl,hs,hs0,hk,HO,HB⟩:=hrel;obtain⟨q0,q1,q2,q3⟩:=Jbm ((HB.out.block _ S8.out).trans C8.out);by_cases hlt:s<b
   ·have hkc:k<cntF (t,a,b,v):=(Ji0 HH.out k).2 (by rw[<-hs.out];exact hlt)
    have N:=Pe (Jsz hkc);have N2:Hid (s+v=nthF (t,a,b,v) (k+1)):=by rw[Jsy,<-hs.out];exact rfl
    have K2:Hid (k+1<=cntF (t,a,b,v)):=hkc;have hlen:((lstF (t,a,b,v)).take k).length<=172800:=by rw[List.length_take];have:=LE.out;omega
    rw[<-hs.out] at N;clear hkc hk hs;generalize (lstF (t,a,b,v)).take k=acc at HO N hlen;have hz:=HB.out.size;go_wp2_with (at_builtin;refine J8y _ rfl (.tmp 19) (.tmp 21) rfl w1.heap.size _ acc s rfl (OwnI.below HO.out ((Below.refl _ _).alloc Ph _)) _ _ (heap_alloc_new _ _) rfl rfl Kb Ka ?_;intro v2 w2 o2 b2;refine Hid.out ?_);have O2:Hid (OwnI w2 w1.heap.size v2 ((lstF (t,a,b,v)).take (k+1))):=by
     show OwnI _ _ _ _
     rw[N.out];exact o2
    have B2:Hid (Po w1 w2):=(HB.out.alloc hz _).trans b2;obtain⟨z0,z1,z2,z3⟩:=Jbm ((B2.out.block _ S8.out).trans C8.out);clear o2 b2 HO HB N q0 q1 q2 q3;refine Pe ?_;go_wp2_with fail;go_roundw;case rel=>exact⟨k+1,s+v,Kj,N2,Ka,K2,O2,B2⟩
    case measure=>exact Q7
   ·have d:decide (s<b)=false:=Pj hlt
    have hkc:k=cntF (t,a,b,v):=by
     have h6:=hk.out;rcases Nat.lt_or_ge k (cntF (t,a,b,v)) with h7 | h7
     ·exact Xf
     ·omega
    have O:=Pe HO.out;rw[hkc,Jyn,<-E.out] at O;have O1:Hid (OwnI wr w.heap.size u3 (stsF (t,a,b,v))):=J28 O.out B1.out.size;have B2:Hid (Po w wr):=B1.out.trans (HB.out.mono B1.out.size);clear hlt hkc hk hs O HO HB;go_wp2_with fail;go_ret;exact⟨_,rfl,O1.out,B2.out⟩
theorem J38(t a b v t' a' b' v':Int)(bk:Nat)(w:World)(h:w.heap[bk]?=some (boxF t a b v)):Pc 268 #[fqV t' a' b' v',.pointer (some ⟨bk,0,none⟩)] w (.bool (metF (t,a,b,v) (t',a',b',v'))):=by
 obtain⟨w7,hw7⟩:=Pi (w.alloc (boxF t' a' b' v'));obtain⟨b7,p0,p1,p2,p3,s7,c7⟩:=Jd8 hw7;obtain⟨q0,q1,q2,q3⟩:=Jbm ((b7.block bk (Pn h).1).trans h);have B7:=Pe b7;clear b7 s7 c7 h;by_cases ht:t=t'
 ·have g:=Jag ht
  have R:=Pe (Jif (f:=(t,a,b,v)) (g:=(t',a',b',v')) ht);have C:=Pe (J30 t a b v t' a' b' v' w7);clear ht;go_enter func268,ntmps268;go_wp2_with fail;refine C.out.mono ?_;rintro e w1 ⟨rfl,b1⟩;have B1:Hid (Po w w1):=B7.out.trans (b1.mono B7.out.size);clear b1 C;go_wp2_with fail;go_ret;exact⟨Jac R.out.symm,B1.out⟩
 ·have g:=Jaa ht
  have R:=Pe (Joj (f:=(t,a,b,v)) (g:=(t',a',b',v')) ht);clear ht;go_enter func268,ntmps268;exact J5
theorem Jl5{f:FuncId}{x:Ending}(h:Calls prog f args W fun e w'=>e=x/\Po W w')(hb:Po w W):Calls prog f args W fun e w'=>e=x/\Po w w' :=
 h.mono fun _ _ ⟨h1,h3⟩=>⟨h1,hb.trans (h3.mono hb.size)⟩
theorem J39{f:FuncId}{l:List Int}(h:Calls prog f args W fun e w'=>∃u,e=.returned u/\OwnI w' W.heap.size u l/\Po W w')(hb:Po w W):Calls prog f args W fun e w'=>∃u,e=.returned u/\LstI w' u l/\Po w w' :=
 h.mono fun _ _ ⟨u,h1,h2,h3⟩=>⟨u,h1,OwnI.lst h2,hb.trans (h3.mono hb.size)⟩
theorem J4a(vl:Value)(l:List Fq)(hl:l.length<=5000)(vt:Value)(ts:List Tp)(hts:∀x∈ts,(clT x).length<=1000000)(i:Nat)(t a b v:Int)(hf:l[i]?=some (t,a,b,v))(w:World)(h:LstF w vl l)(ht:Jcs w vt ts):
  Pc 196 #[vl,.int .i64 (i:Int),vt] w (.int .i64 (badF (ts.map clT) (l.take i) (t,a,b,v))):=by
 have hi:=(Pm hf).1;obtain⟨A,n,rfl,-,-,-⟩:=id h;obtain⟨⟨D,m,rfl,-,-,-⟩,-⟩:=id ht;obtain⟨p,o,rfl,hp,m0,m1,m2,m3⟩:=four_at h hf;obtain⟨w7,hw7⟩:=Pi (w.alloc (boxF t a b v));obtain⟨b7,p0,p1,p2,p3,s7,c7⟩:=Jd8 hw7;have B7:=Pe b7;have C7:=Pe c7;have S7:=Pe s7;have H:=Pe (h.below b7);have HT:=Pe (ht.below b7);have TL:Hid ((ts.map clT).length=ts.length):=List.length_map _;have gi:(i:Int)<(l.length:Int):=Ka;have HF:=Pe hf;clear b7 c7 s7 h ht hp hf;by_cases n0:t<0
 ·have R:=Pe (Jig (ts:=ts.map clT) (seen:=l.take i) (f:=(t,a,b,v)) (.inl n0))
  clear hts hl hi;go_enter func196,ntmps196;exact Vd
 have g0:decide (t<0)=false:=Pj n0;by_cases n1:(ts.length:Int)<=t
 ·have R:=Pe (Jig (ts:=ts.map clT) (seen:=l.take i) (f:=(t,a,b,v)) (.inr Z8))
  clear hts hl hi;go_enter func196,ntmps196;exact Vd
 have n2:¬((ts.map clT).length:Int)<=t:=Z8;obtain⟨N,rfl⟩:∃N:Nat,t=(N:Int):=⟨t.toNat,Ka⟩;have g1:decide ((ts.length:Int)<=(N:Int))=false:=Pj n1;have g1':decide (ts.length<=N)=false:=Pj Ka;have K1:=Pe (fun W (hW:Po w7 W)=>Jl5 (Jl3 (N:Int) a b v W) hW);cases h3:sndF ((N:Int),a,b,v) with
 | false =>
  have R:=Pe (Jkm (ts:=ts.map clT) (seen:=l.take i) n0 n2 h3);have D1:=Pe (fun d os=>Calls.regrown_of (w:=w7) (d:=d) (os:=os) (Jl3 (N:Int) a b v _));rw[h3] at D1;have Q0:=fun d os=>cell_regrown p0 d os
  have Q1:=fun d os=>cell_regrown p1 d os
  have Q2:=fun d os=>cell_regrown p2 d os
  have Q3:=fun d os=>cell_regrown p3 d os
  clear hts hl hi h3 n0 n1 n2 K1;go_enter func196,ntmps196;go_wp2_with fail;refine wp_region_quiet_below Kl Kl ?_;repeat (go_big_quiet_step (first | with_reducible exact D1.out _ _))
  refine wpQuiet_nil ?_;intro w1 hw1;have B1:Hid (Po w w1):=by
   exact Zs
  clear hw1 D1 Q0 Q1 Q2 Q3;go_wp2_with fail;go_ret;exact⟨Jad R.out.symm,B1.out⟩
 | true =>
  rw[h3] at K1;obtain⟨⟨id,rr,kk,ff,cv,cl⟩,hx⟩:=Jah (show N<ts.length by omega);obtain⟨nm,hnm⟩:=Pi (str id);obtain⟨bt,ot,BB,mm,rfl,rfl,hbt,r0,r1,r2,r3,r4,lc,-,oc⟩:=Ja7 HT.out hx hnm;have hcl:cl.length<=1000000:=hts _ (List.mem_iff_getElem?.2 ⟨N,hx⟩);have HC:clsF (ts.map clT) ((N:Int),a,b,v)=cl:=J7n (n:=N) rfl (by rw[List.getElem?_map,hx];rfl);have K2:=Pe (fun W (hW:Po w7 W)=>J39 (Jqy (N:Int) a b v W) hW);rw[Jhb h3] at K2;have LL:=Jhc ((N:Int),a,b,v);have LE:=Jkl h3;have F1:=Js5 h3;have F2:=J7m h3;have K3:=Pe (fun W (hW:Po w7 W) u (hu:LstI W u (lstF ((N:Int),a,b,v)))=>Jl5 (J36 (.slice BB cl.length mm) cl hcl oc u (lstF ((N:Int),a,b,v)) Ka a (endF ((N:Int),a,b,v)) F1 F2 W (lc.below hW) hu) hW);have gN:(N:Int)<(ts.length:Int):=Ka;have HBT:=Pe hbt;have R4:=Pe r4;have e0:(fitC cl a&&fitC cl (endF ((N:Int),a,b,v)))=allF (clsF (ts.map clT) ((N:Int),a,b,v)) ((N:Int),a,b,v):=by rw[HC];rfl
  rw[e0] at K3;clear LL LE F1 F2 hx hnm lc oc hcl HC hts e0 hbt;generalize lstF ((N:Int),a,b,v)=ls at K2 K3;cases h4:allF (clsF (ts.map clT) ((N:Int),a,b,v)) ((N:Int),a,b,v) with
  | false =>
   have R:=Pe (Jok (ts:=ts.map clT) (seen:=l.take i) n0 n2 h4);rw[h4] at K3;clear hl hi h3 h4 n0 n1 n2;go_enter func196,ntmps196;go_wp2_with fail;go_region_held3 (fun W=>W.cell? ⟨w.heap.size,0,none⟩=some (.int .i64 (N:Int))/\W.cell? ⟨w.heap.size,1,none⟩=some (.int .i64 a)/\W.cell? ⟨w.heap.size,2,none⟩=some (.int .i64 b)/\W.cell? ⟨w.heap.size,3,none⟩=some (.int .i64 v)/\W.cell? ⟨bt,ot+N*5+4,none⟩=some (.slice BB cl.length mm)) (first | assumption | (exact⟨Kn,Kn,Kn,Kn,Kn⟩)) (first
    | (go_at_call 263;with_reducible refine(K1.out _ Km).mono ?_;rintro e w1 ⟨rfl,b1⟩;obtain⟨y0,y1,y2,y3⟩:=Jbm ((b1.block _ S7.out).trans C7.out);have y4:=(b1.cell (p:=⟨bt,ot+N*5+4,none⟩) HBT.out).trans R4.out)
    | (go_at_call 265;with_reducible refine(K2.out _ b1).mono ?_;rintro e w2 ⟨u2,rfl,l2,b2⟩;obtain⟨x0,x1,x2,x3⟩:=Jbm ((b2.block _ S7.out).trans C7.out);have x4:=(b2.cell (p:=⟨bt,ot+N*5+4,none⟩) HBT.out).trans R4.out;have L2:=Pe l2;clear l2)
    | (go_at_call 264;with_reducible refine(K3.out _ b2 _ L2.out).mono ?_;rintro e w3 ⟨rfl,b3⟩;obtain⟨z0,z1,z2,z3⟩:=Jbm ((b3.block _ S7.out).trans C7.out);have z4:=(b3.cell (p:=⟨bt,ot+N*5+4,none⟩) HBT.out).trans R4.out))
   all_goals
    have B3:Hid (Po w w3):=B7.out.trans (b3.mono B7.out.size);clear b1 b2 b3 K1 K2 K3;go_wp2_with fail;go_ret;exact⟨Jad R.out.symm,B3.out⟩
  | true =>
   rw[h4] at K3;have TK:=Jbx l i _ HF.out;obtain⟨u6,hu6,l6⟩:=Jtb H.out (i+1) Ka Ka ((i:Int)+1) Ka;obtain⟨u8,hu8,l8⟩:=Jtb H.out i Ka Ka (i:Int) rfl;have C6:=Pe (fun W (hW:Po w7 W)=>Jyy u6 (l.take (i+1)) J8 (N:Int) W (l6.below hW));have C8:=Pe (fun W (hW:Po w7 W)=>Joo 268 (.pointer (some ⟨w.heap.size,0,none⟩)) (metF ((N:Int),a,b,v)) (Jcg func268 Kl Kl) u8 (l.take i) J8 W (l8.below hW)
    (fun k t' a' b' v' _ W' hW'=>J38 (N:Int) a b v t' a' b' v' w.heap.size W' ((hW'.block _ (Ps S7.out hW.size)).trans ((hW.block _ S7.out).trans C7.out))))
   have wi:IntKind.i64.wrap ((i:Int)+1)=(i:Int)+1:=IntWalk.i64_in _ Ka;have E0:=Pe (show(insF (N:Int) (l.take i++[((N:Int),a,b,v)])).length=(srtI (insF (N:Int) (l.take (i+1)))).length by rw[Jie,TK]);clear l6 l8 TK;by_cases h5:256<(insF (N:Int) (l.take i++[((N:Int),a,b,v)])).length
   ·have R:=Pe (Jol (ts:=ts.map clT) (seen:=l.take i) n0 n2 h3 h4 h5)
    rw[E0.out] at h5;have g5:(256:Int)<((srtI (insF (N:Int) (l.take (i+1)))).length:Int):=Ka;clear hl hi h3 h4 n0 n1 n2 h5;go_enter func196,ntmps196;go_wp2_with fail;go_region_held3 (fun W=>W.cell? ⟨w.heap.size,0,none⟩=some (.int .i64 (N:Int))/\W.cell? ⟨w.heap.size,1,none⟩=some (.int .i64 a)/\W.cell? ⟨w.heap.size,2,none⟩=some (.int .i64 b)/\W.cell? ⟨w.heap.size,3,none⟩=some (.int .i64 v)/\W.cell? ⟨bt,ot+N*5+4,none⟩=some (.slice BB cl.length mm)) (first | assumption | (exact⟨Kn,Kn,Kn,Kn,Kn⟩)) (first
     | (go_at_call 263;with_reducible refine(K1.out _ Km).mono ?_;rintro e w1 ⟨rfl,b1⟩;obtain⟨y0,y1,y2,y3⟩:=Jbm ((b1.block _ S7.out).trans C7.out);have y4:=(b1.cell (p:=⟨bt,ot+N*5+4,none⟩) HBT.out).trans R4.out)
     | (go_at_call 265;with_reducible refine(K2.out _ b1).mono ?_;rintro e w2 ⟨u2,rfl,l2,b2⟩;obtain⟨x0,x1,x2,x3⟩:=Jbm ((b2.block _ S7.out).trans C7.out);have x4:=(b2.cell (p:=⟨bt,ot+N*5+4,none⟩) HBT.out).trans R4.out;have L2:=Pe l2;clear l2)
     | (go_at_call 264;with_reducible refine(K3.out _ b2 _ L2.out).mono ?_;rintro e w3 ⟨rfl,b3⟩;obtain⟨z0,z1,z2,z3⟩:=Jbm ((b3.block _ S7.out).trans C7.out);have z4:=(b3.cell (p:=⟨bt,ot+N*5+4,none⟩) HBT.out).trans R4.out))
    all_goals
     have B3:Hid (Po w w3):=B7.out.trans (b3.mono B7.out.size);have BB3:=Pe b3;clear b1 b2 b3 K1 K2 K3 x0 x1 x2 x3 x4 y0 y1 y2 y3 y4 p0 p1 p2 p3 hw7;go_wp2_with fail;go_still_tail 6,Kl;change wpList _ _ _ _ _ w3.drew;go_wp2_with fail;refine(C6.out _ BB3.out.drew).mono ?_;rintro e w4 ⟨u4,rfl,l4,b4⟩;have b4':Po w3 w4:=(Below.refl _ w3).drew.trans b4;have B4:Hid (Po w w4):=B3.out.trans (b4'.mono B3.out.size);have BB4:Hid (Po w7 w4):=BB3.out.trans (b4'.mono BB3.out.size);obtain⟨A4,c4,rfl,-⟩:=l4;clear b4 b4' C6 C8 z0 z1 z2 z3 z4;go_wp2_with fail;go_ret;exact⟨Jad R.out.symm,B4.out⟩
   have h5':=h5;rw[E0.out] at h5';have g5:decide ((256:Int)<((srtI (insF (N:Int) (l.take (i+1)))).length:Int))=false:=Pj Ka;have g5':decide (256<(srtI (insF (N:Int) (l.take (i+1)))).length)=false:=Pj h5';clear h5';cases h6:hitF (l.take i) ((N:Int),a,b,v) with
   | true =>
    have R:=Pe (Js6 (ts:=ts.map clT) (seen:=l.take i) n0 n2 h3 h4 h5 h6);rw[show(l.take i).any (metF ((N:Int),a,b,v))=true from h6] at C8;clear hl hi h3 h4 n0 n1 n2 h5 h6;go_enter func196,ntmps196;go_wp2_with fail;go_region_held3 (fun W=>W.cell? ⟨w.heap.size,0,none⟩=some (.int .i64 (N:Int))/\W.cell? ⟨w.heap.size,1,none⟩=some (.int .i64 a)/\W.cell? ⟨w.heap.size,2,none⟩=some (.int .i64 b)/\W.cell? ⟨w.heap.size,3,none⟩=some (.int .i64 v)/\W.cell? ⟨bt,ot+N*5+4,none⟩=some (.slice BB cl.length mm)) (first | assumption | (exact⟨Kn,Kn,Kn,Kn,Kn⟩)) (first
     | (go_at_call 263;with_reducible refine(K1.out _ Km).mono ?_;rintro e w1 ⟨rfl,b1⟩;obtain⟨y0,y1,y2,y3⟩:=Jbm ((b1.block _ S7.out).trans C7.out);have y4:=(b1.cell (p:=⟨bt,ot+N*5+4,none⟩) HBT.out).trans R4.out)
     | (go_at_call 265;with_reducible refine(K2.out _ b1).mono ?_;rintro e w2 ⟨u2,rfl,l2,b2⟩;obtain⟨x0,x1,x2,x3⟩:=Jbm ((b2.block _ S7.out).trans C7.out);have x4:=(b2.cell (p:=⟨bt,ot+N*5+4,none⟩) HBT.out).trans R4.out;have L2:=Pe l2;clear l2)
     | (go_at_call 264;with_reducible refine(K3.out _ b2 _ L2.out).mono ?_;rintro e w3 ⟨rfl,b3⟩;obtain⟨z0,z1,z2,z3⟩:=Jbm ((b3.block _ S7.out).trans C7.out);have z4:=(b3.cell (p:=⟨bt,ot+N*5+4,none⟩) HBT.out).trans R4.out))
    all_goals
     have B3:Hid (Po w w3):=B7.out.trans (b3.mono B7.out.size);have BB3:=Pe b3;clear b1 b2 b3 K1 K2 K3 x0 x1 x2 x3 x4 y0 y1 y2 y3 y4 p0 p1 p2 p3 hw7;go_wp2_with fail;go_still_tail 6,Kl;change wpList _ _ _ _ _ w3.drew;go_wp2_with fail;refine(C6.out _ BB3.out.drew).mono ?_;rintro e w4 ⟨u4,rfl,l4,b4⟩;have b4':Po w3 w4:=(Below.refl _ w3).drew.trans b4;have B4:Hid (Po w w4):=B3.out.trans (b4'.mono B3.out.size);have BB4:Hid (Po w7 w4):=BB3.out.trans (b4'.mono BB3.out.size);obtain⟨A4,c4,rfl,-⟩:=l4;clear b4 b4' C6 z0 z1 z2 z3 z4;go_wp2_with fail;refine(C8.out _ BB4.out).mono ?_;exact Zv
   | false =>
    have R:=Pe (Jom (ts:=ts.map clT) (seen:=l.take i) n0 n2 h3 h4 h5 h6);rw[show(l.take i).any (metF ((N:Int),a,b,v))=false from h6] at C8;clear hl hi h3 h4 n0 n1 n2 h5 h6;go_enter func196,ntmps196;go_wp2_with fail;go_region_held3 (fun W=>W.cell? ⟨w.heap.size,0,none⟩=some (.int .i64 (N:Int))/\W.cell? ⟨w.heap.size,1,none⟩=some (.int .i64 a)/\W.cell? ⟨w.heap.size,2,none⟩=some (.int .i64 b)/\W.cell? ⟨w.heap.size,3,none⟩=some (.int .i64 v)/\W.cell? ⟨bt,ot+N*5+4,none⟩=some (.slice BB cl.length mm)) (first | assumption | (exact⟨Kn,Kn,Kn,Kn,Kn⟩)) (first
     | (go_at_call 263;with_reducible refine(K1.out _ Km).mono ?_;rintro e w1 ⟨rfl,b1⟩;obtain⟨y0,y1,y2,y3⟩:=Jbm ((b1.block _ S7.out).trans C7.out);have y4:=(b1.cell (p:=⟨bt,ot+N*5+4,none⟩) HBT.out).trans R4.out)
     | (go_at_call 265;with_reducible refine(K2.out _ b1).mono ?_;rintro e w2 ⟨u2,rfl,l2,b2⟩;obtain⟨x0,x1,x2,x3⟩:=Jbm ((b2.block _ S7.out).trans C7.out);have x4:=(b2.cell (p:=⟨bt,ot+N*5+4,none⟩) HBT.out).trans R4.out;have L2:=Pe l2;clear l2)
     | (go_at_call 264;with_reducible refine(K3.out _ b2 _ L2.out).mono ?_;rintro e w3 ⟨rfl,b3⟩;obtain⟨z0,z1,z2,z3⟩:=Jbm ((b3.block _ S7.out).trans C7.out);have z4:=(b3.cell (p:=⟨bt,ot+N*5+4,none⟩) HBT.out).trans R4.out))
    all_goals
     have B3:Hid (Po w w3):=B7.out.trans (b3.mono B7.out.size);have BB3:=Pe b3;clear b1 b2 b3 K1 K2 K3 x0 x1 x2 x3 x4 y0 y1 y2 y3 y4 p0 p1 p2 p3 hw7;go_wp2_with fail;go_still_tail 6,Kl;change wpList _ _ _ _ _ w3.drew;go_wp2_with fail;refine(C6.out _ BB3.out.drew).mono ?_;rintro e w4 ⟨u4,rfl,l4,b4⟩;have b4':Po w3 w4:=(Below.refl _ w3).drew.trans b4;have B4:Hid (Po w w4):=B3.out.trans (b4'.mono B3.out.size);have BB4:Hid (Po w7 w4):=BB3.out.trans (b4'.mono BB3.out.size);obtain⟨A4,c4,rfl,-⟩:=l4;clear b4 b4' C6 z0 z1 z2 z3 z4;go_wp2_with fail;refine(C8.out _ BB4.out).mono ?_;exact Zv
theorem kchk_any(vl:Value)(l:List Fq)(hl:l.length<=5000)(vt:Value)(ts:List Tp)(hts:∀x∈ts,(clT x).length<=1000000)(w:World)(h:LstF w vl l)(ht:Jcs w vt ts):
  Pc 107 #[vl,vt] w (.tuple #[.int .i64 ((chkF (ts.map clT) l).1),.int .i64 ((chkF (ts.map clT) l).2)]):=by
 have H:=Pe h;have HT:=Pe ht;obtain⟨A,n,rfl,-,-,-⟩:=h;obtain⟨⟨D,m,rfl,-,-,-⟩,-⟩:=ht;obtain⟨q,hq⟩:=Pi (chkF (ts.map clT) l);rw[hq];by_cases h0:64<l.length
 ·have E:Hid (q=(0,5)):=by rw[<-hq];exact Jon h0
  have g:(64:Int)<(l.length:Int):=Ka;clear hq hts hl h0;go_enter func107,ntmps107;exact Xa
 have ST:Hid (q=fbF (badF (ts.map clT)) (fun f=>f) ((l.take 0).map fun f=>f) 0 (l.drop 0)):=by rw[<-hq];exact Jkn h0
 have g:decide ((64:Int)<(l.length:Int))=false:=Pj Ka;have g':decide (64<l.length)=false:=Pj h0;have C:=Pe (fun W (hW:Po w W) i t a b v hf=>J4a (.slice A l.length n) l hl (.slice D ts.length m) ts hts i t a b v hf W (H.out.below hW) (HT.out.below hW));clear hq hts h0;go_enter func107,ntmps107;go_wp2_with fail;go_loopw [13] (fun i wr=>∃k:Nat,i=.int .i64 k/\k<=l.length/\Hid (q=fbF (badF (ts.map clT)) (fun f=>f) ((l.take k).map fun f=>f) k (l.drop k))/\Hid (Po w wr)) (fun i _=>l.length - (intOf i).toNat);case atStart=>exact⟨0,rfl,Nat.zero_le _,ST,Pe Pg⟩
 case round =>
  clear ST g g';obtain⟨k,rfl,hk,hz,HB⟩:=hrel;by_cases hlt:k<l.length
  ·obtain⟨⟨t,a,b,v⟩,hf⟩:=Jah hlt
   have gk:(k:Int)<(l.length:Int):=Ka;have C1:=Pe (C.out wr HB.out k t a b v hf);by_cases he:badF (ts.map clT) (l.take k) (t,a,b,v)=0
   ·have N:=Pe (Js8 hz.out hf he)
    rw[he] at C1;clear hz hf he;go_wp2_with fail;refine C1.out.mono ?_;rintro e w1 ⟨rfl,b1⟩;have B1:Hid (Po w w1):=HB.out.trans (b1.mono HB.out.size);clear b1 C1;go_wp2_with fail;go_roundw;case rel=>exact⟨k+1,Kj,Ka,N,B1⟩
    case measure=>exact Q7
   ·have R:=Pe (Js7 hz.out hf rfl he)
    generalize badF (ts.map clT) (l.take k) (t,a,b,v)=z at C1 he R;have t1:=Jaf he;clear hz hf he hlt;go_wp2_with fail;refine C1.out.mono ?_;rintro e w1 ⟨rfl,b1⟩;have B1:Hid (Po w w1):=HB.out.trans (b1.mono HB.out.size);clear b1 C1;exact Xj
  ·have R:=Pe (Js9 hz.out Ka)
   have d:decide (k<l.length)=false:=Kg;clear hz hlt;exact V7
def okS(d st t:Int):Bool:=decide (0<=st/\st<=172800)&&inT d st t
theorem Jy0{d:Int}(h:okS d st t=true):(0<=st/\st<=172800)/\inT d st t=true:=by
 unfold okS at h;rw[Bool.and_eq_true,decide_eq_true_iff] at h;exact h
theorem Jor(t d st:Int)(ht:-9223372036854775808<=t/\t<=9223372036854775807)(hd:-9223372036854775808<=d/\d<=9223372036854775807)(w:World):Calls prog 308 #[.int .i64 t,.int .i64 st,.int .i64 d] w fun e w'=>∃n:Int,e=.returned (.tuple #[.int .i64 n,.bool (okS d st t)])/\(okS d st t=true->n=t - d+st)/\w=w':=by
 by_cases h:(0<=st/\st<=172800)/\0<=t - d+st/\t - d+st<=172800
 ·refine(J35 t d st h.1 h.2 ht hd w).mono ?_
  rintro e w' ⟨rfl,rfl⟩;have:okS d st t=true:=by unfold okS;rw[Pk h.1,J9o.2 h.2];rfl
  exact⟨_,by rw[this],fun _=>rfl,rfl⟩
 ·refine(J9s t d st h ht hd w).mono ?_
  rintro e w' ⟨⟨n,rfl⟩,rfl⟩;have:okS d st t=false:=by
   unfold okS inT;rw[Bool.eq_false_iff,Ne,Bool.and_eq_true,decide_eq_true_iff,decide_eq_true_iff];exact h
  exact⟨n,by rw[this],fun hh=>(by rw[this] at hh;cases hh),rfl⟩
theorem Jy1{l:List Cl}{k:Nat}{x:Cl}(h:l[k]?=some x)(hx:okS (dpF l) st x.2.1=false\/okS (dpF l) st x.2.2.1=false):fitC l st=false:=by
 by_cases hr:0<=st/\st<=172800
 ·refine Jl0 h ?_
  unfold okS at hx;rw[Pk hr,Bool.true_and,Bool.true_and] at hx;rcases hx with hx | hx
  ·exact Js1 hx
  ·exact Js2 hx
 ·exact Jqt hr
theorem Jy2{l:List Cl}(h0:l.length≠0)(hx:∀(j:Nat) x,l[j]?=some x->okS (dpF l) st x.2.1=true/\okS (dpF l) st x.2.2.1=true):fitC l st=true:=by
 obtain⟨x,h⟩:=Jah (l:=l) (k:=0) Ka;exact Jl1 (Jy0 (hx 0 x h).1).1 fun j y hy=>Js3 (Jy0 (hx j y hy).1).2 (Jy0 (hx j y hy).2).2
theorem rcalls_any(s:ByteArray)(r c:Int)(q:Bool)(v:Value)(l:List Cl)(hl:l.length<=1000000)(hs:OkS l)(st:Int)(w:World)(h:LstC w v l):
  Calls prog 236 #[.agg #[.string s,.int .i64 r,.int .i64 c,.bool q,v],.int .i64 st] w fun e w'=>∃u,e=.returned (.tuple #[u,.int .i64 (errC l st)])/\OwnC w' w.heap.size u (ansC l st)/\Po w w':=by
 obtain⟨w7,hw7⟩:=Pi (w.alloc (.cells #[.string s,.int .i64 r,.int .i64 c,.bool q,v] 56 (0,0)));obtain⟨b7,p0,p1,p2,p3,p4,s7⟩:=Jyh hw7;have B7:=Pe b7;have H:=Pe (h.below b7);have HS7:=Pe s7;have HS:=Pe hs;obtain⟨A,n,rfl,-,-,-⟩:=h;clear b7 hs s7;by_cases h0:l.length=0
 ·have E:=Pe (Js4 (st:=st) h0)
  have An:=Pe (J9q st h0);have g:((l.length:Int)==0)=true:=Jag Ka;have g':(l.length==0)=true:=by rw[h0];rfl
  clear h0;go_enter func236,ntmps236;go_wp2_with fail;go_ret2;exact⟨_,Jtf E.out.symm,by rw[An.out];exact OwnG.nil _ _ _ _ _,B7.out⟩
 have g:((l.length:Int)==0)=false:=Jaa Ka;have g':(l.length==0)=false:=Qf;obtain⟨⟨y,ya,yd,yo,yu⟩,hy⟩:=Jah (l:=l) (k:=0) Ka;have hd:dpF l=yd:=Qc9 hy;obtain⟨b,f,rfl,hb,k0,k1,k2,k3,k4⟩:=Ja6 H.out hy;rw[Nat.zero_mul,Nat.add_zero] at k0 k1 k2 k3 k4;have gl:(0:Int)<(l.length:Int):=Ka;have gn:0<l.length:=Ka;have H0:=Pe h0;have HD:=Pe hd;have oy:=Pe (HS.out.all hy).2.2;clear h0 hy hd;go_enter func236,ntmps236;go_wp2_with fail;clear g g' k0 k1 k2 k3 k4;go_loopw [7,8] (fun o i wr=>∃k:Nat,i=.int .i64 k/\k<=l.length/\Hid (∀(j:Nat) x,j<k->l[j]?=some x->okS (dpF l) st x.2.1=true/\okS (dpF l) st x.2.2.1=true)/\Hid (OwnC wr w7.heap.size o ((l.take k).map (runX (dpF l) st)))/\Hid (Po w7 wr)) (fun _ i _=>l.length - (intOf i).toNat);case atStart=>exact⟨0,rfl,Nat.zero_le _,Pe (fun j x hj=>absurd hj (Nat.not_lt_zero _)),Pe (OwnG.nil _ _ _ _ _),Pe Pg⟩
 case round =>
  clear hw7;obtain⟨k,rfl,hk,hall,HO,HB⟩:=hrel;have m4:=(HB.out.cell (p:=⟨w.heap.size,4,none⟩) HS7.out).trans p4;clear p0 p1 p2 p3;by_cases hlt:k<l.length
  ·obtain⟨⟨x,xa,xd,xo,xu⟩,hx⟩:=Jah hlt
   obtain⟨b',f',e',hb',r0,r1,r2,r3,r4⟩:=Ja6 (H.out.below HB.out) hx;cases e';have gk:(k:Int)<(l.length:Int):=Ka;obtain⟨w8,hw8⟩:=Pi (wr.alloc (.cells #[.int .i64 x,.int .i64 xa,.int .i64 xd,.bool xo,.bool xu] 58 (0,0)));obtain⟨b8,q0,q1,q2,q3,q4,s8⟩:=Jki hw8;have ox:=HS.out.all hx;have B8:Hid (Po w7 w8):=HB.out.trans (b8.mono HB.out.size);have O8:Hid (OwnC w8 w7.heap.size u7 ((l.take k).map (runX (dpF l) st))):=HO.out.below b8;have C1:=Pe (Jor xa yd st ox.2.1 oy.out w8);have C2:=Pe (Jor xd yd st ox.2.2 oy.out w8);have N:=Pe (J3x (st:=st) hx);have hlen:((l.take k).map (runX (dpF l) st)).length<=1000000:=Jp;have MB:Hid (Po w w8):=B7.out.trans (B8.out.mono B7.out.size);have hz8:=B8.out.size;have ST:=Pe (fun hh=>Jy1 (st:=st) hx hh);have GO:Hid (okS yd st xa=true->okS yd st xd=true->∀(j:Nat) x,j<k+1->l[j]?=some x->okS (dpF l) st x.2.1=true/\okS (dpF l) st x.2.2.1=true):=by
    intro a1 a2 j z hj hz;by_cases hjk:j<k
    ·exact hall.out j z hjk hz
    ·obtain rfl:j=k:=Ka
     rw[hx] at hz;obtain rfl:=Pp hz;rw[HD.out];exact⟨a1,a2⟩
   rw[HD.out] at ST N O8 hlen;have m5:=(B8.out.cell (p:=⟨w.heap.size,4,none⟩) HS7.out).trans p4;clear hx hb' HO HB b8 ox hall p4;cases c1:okS yd st xa with
   | false =>
    rw[c1] at C1;have E:=Pe (Jyp H0.out (ST.out (.inl c1)));have An:=Pe (J7l (ST.out (.inl c1)));generalize okS yd st xd=o2 at C2;clear c1 GO ST;go_wp2_with fail;refine C1.out.mono ?_;rintro e w' ⟨n1,rfl,-,rfl⟩;go_wp2_with fail;refine C2.out.mono ?_;exact Zu
   | true =>
    rw[c1] at C1;cases c2:okS yd st xd with
    | false =>
     rw[c2] at C2;have E:=Pe (Jyp H0.out (ST.out (.inr c2)));have An:=Pe (J7l (ST.out (.inr c2)));clear c1 c2 GO ST;go_wp2_with fail;refine C1.out.mono ?_;rintro e w' ⟨n1,rfl,-,rfl⟩;go_wp2_with fail;refine C2.out.mono ?_;exact Zu
    | true =>
     rw[c2] at C2;have G:=Pe (GO.out c1 c2);clear c1 c2 GO ST;go_wp2_with fail;refine C1.out.mono ?_;rintro e w' ⟨n1,rfl,hn1,rfl⟩;obtain rfl:=hn1 trivial;clear hn1;go_wp2_with fail;refine C2.out.mono ?_;rintro e w' ⟨n2,rfl,hn2,rfl⟩;obtain rfl:=hn2 trivial;clear hn2;go_wp2_with (at_builtin;refine J29 Jh0 Qc2 Kd underlying54 J9i rfl Kd _ rfl (.tmp 57) (.tmp 67) rfl w7.heap.size _ ((l.take k).map (runX yd st)) (x,xa - yd+st,xd - yd+st,xo,xu) rfl (World.ownsRow.alloc O8.out _) w8.heap.size _ (heap_alloc_new _ _) rfl rfl Kb Ka ?_;intro u2 w10 own10 b10 _ _;refine Hid.out ?_);have B10:Hid (Po w7 w10):=(B8.out.alloc hz8 _).trans b10;have O10:Hid (OwnC w10 w7.heap.size u2 ((l.take (k+1)).map (runX (dpF l) st))):=by
      show OwnC _ _ _ _
      rw[HD.out,N.out,show runX yd st (x,xa,xd,xo,xu)=(x,xa - yd+st,xd - yd+st,xo,xu) from rfl];exact own10
     clear own10 b10 N O8 B8 MB;refine Pe ?_;go_wp2_with fail;go_roundw;case rel=>exact⟨k+1,Kj,Ka,G,O10,B10⟩
     case measure=>exact Q7
  ·have FC:=Jy2 (st:=st) H0.out (fun j x hj=>hall.out j x Qx hj)
   have E:=Pe (Jyq H0.out FC);have An:=Pe (J9p FC);have O:=Pe HO.out;rw[List.take_of_length_le Ka] at O;have O1:Hid (OwnC wr w.heap.size u7 (ansC l st)):=by
    show OwnC _ _ _ _
    rw[An.out];exact OwnG.down O.out B7.out.size
   have B1:Hid (Po w wr):=B7.out.trans (HB.out.mono B7.out.size);have d:decide (k<l.length)=false:=Kg;clear hall hlt O HO HB FC;go_wp2_with fail;go_ret2;exact⟨_,Jtf E.out.symm,O1.out,B1.out⟩
theorem Jy3{l:List Cl}(h:0<=st/\st<=172800):errC l st=10↔fitC l st=false:=by
 by_cases h0:l.length=0
 ·rw[Js4 h0]
  obtain rfl:=List.length_eq_zero_iff.1 h0;rw[Jl1 (l:=[]) h (fun j x hj=>by simp at hj)];simp
 ·cases hf:fitC l st with
  | true=>rw[Jyq h0 hf];simp
  | false=>rw[Jyp h0 hf];simp
theorem Qdd(h:sndF f=true):0<=endF f/\endF f<=172800:=by
 have h1:=J9l h (cntF f - 1);have h2:=(Ji0 h (cntF f - 1)).1 (by have:=Jlz h;omega);obtain⟨t,a,b,e⟩:=f;have h3:=Jc7.1 h;unfold endF;simp only at h1 h2;omega
theorem Jos{f:FuncId}{l:List Cl}{z:Int}(h:Calls prog f args W fun e w'=>∃u,e=.returned (.tuple #[u,.int .i64 z])/\OwnC w' W.heap.size u l/\Po W w')(hb:Po w W):Calls prog f args W fun e w'=>∃u,e=.returned (.tuple #[u,.int .i64 z])/\Po w w' :=
 h.mono fun _ _ ⟨u,h1,_,h3⟩=>⟨u,h1,hb.trans (h3.mono hb.size)⟩
theorem Jy4(s:ByteArray)(r c:Int)(q:Bool)(v:Value)(l:List Cl)(hl:l.length<=1000000)(hs:OkS l)(t a b y:Int)(hf:sndF (t,a,b,y)=true)(w:World)(h:LstC w v l):
  Pc 162 #[.agg #[.string s,.int .i64 r,.int .i64 c,.bool q,v],fqV t a b y] w (.bool (allF l (t,a,b,y))):=by
 obtain⟨w7,hw7,z7,ra,rb,b7⟩:=Jd0 w (boxT s r c q v) (boxF t a b y);obtain⟨q0,q1,q2,q3⟩:=Jbm rb;have B7:=Pe b7;have RA:=Pe ra;have Z7:=Pe z7;have H:=Pe (h.below b7);obtain⟨A,n,rfl,-,-,-⟩:=h;have ha:0<=a/\a<=172800:=by have:=Jc7.1 hf;omega
 have hz:=Qdd hf;have T1:=Pe (Jy3 (l:=l) ha);have T2:=Pe (Jy3 (l:=l) hz);have F1:=Pe (Js5 hf);have F2:=Pe (J7m hf);have LL:=Jhc (t,a,b,y);have LE:=Jkl hf;have LP:=Jlz hf;have C0:=Pe (J37 t a b y w7);rw[Jhb hf] at C0;have C1:=Pe (fun x W hW=>rcalls_any s r c q (.slice A l.length n) l hl hs x W hW);unfold allF;show Calls _ _ _ _ fun e w'=>e=.returned (.bool (fitC l a&&fitC l (endF (t,a,b,y))))/\_
 generalize hN:(lstF (t,a,b,y)).length=N at F2;obtain⟨k,hk⟩:=Pi (N - 1);rw[hk] at F2;have e1:(N:Int) - 1=(k:Int):=Ka;have kle:k<=172800:=Ka;have kn:(k:Int)<(N:Int):=Ka;have wk:IntKind.i64.wrap (k:Int)=(k:Int):=IntWalk.i64_in _ Ka;have gn:(0:Int)<(N:Int):=Ka;have gn':0<N:=Ka;have HN:=Pe hN;generalize endF (t,a,b,y)=E at T2 F2 |-;generalize lstF (t,a,b,y)=ls at C0 F1 F2 HN;obtain⟨R0,hR0⟩:=Pi ((fitC l a&&fitC l E));rw[hR0];have HR:=Pe hR0;clear hR0;clear hf ha hz b7 ra rb z7 LL LE LP hN hk;go_enter func162,ntmps162;go_wp2_with fail;refine C0.out.mono ?_;rintro e w1 ⟨u,rfl,o1,b1⟩;have I1:=Pe (OwnI.lst o1);have B1:Hid (Po w w1):=B7.out.trans (b1.mono B7.out.size);have RA1:Hid (w1.heap[w.heap.size]?=some (boxT s r c q (.slice A l.length n))):=(b1.block _ (by rw[Z7.out];omega)).trans RA.out;have Z1:Hid (w.heap.size+1<w1.heap.size):=Ps (by rw[Z7.out];omega) b1.size;have H1:=Pe (H.out.below b1);obtain⟨A1,c1,rfl⟩:=Jc4 o1;obtain⟨g,o,rfl,hg,m0⟩:=int_cell I1.out F1.out;obtain⟨g',o',e',-,m1⟩:=int_cell I1.out F2.out;cases e';rw[Nat.add_zero] at m0;obtain⟨p0,p1,p2,p3,p4⟩:=Jfr RA1.out;rw[HN.out];have HG:=Pe hg;have K1:=Pe (fun W (hW:Po w1 W)=>Jos (C1.out a W (H1.out.below hW)) hW);clear b1 o1 C0 B7 RA Z7 H q0 q1 q2 q3 hw7 I1 F1 F2 hg HN;go_wp2_with fail;go_region_held3 (fun W=>W.cell? ⟨w.heap.size,0,none⟩=some (.string s)/\W.cell? ⟨w.heap.size,1,none⟩=some (.int .i64 r)/\W.cell? ⟨w.heap.size,2,none⟩=some (.int .i64 c)/\W.cell? ⟨w.heap.size,3,none⟩=some (.bool q)/\W.cell? ⟨w.heap.size,4,none⟩=some (.slice A l.length n)/\W.cell? ⟨g,o,none⟩=some (.int .i64 a)) (first | assumption | (exact⟨Kn,Kn,Kn,Kn,Kn,Kn⟩)) (first
  | (go_at_call 236;with_reducible refine(K1.out _ Km).mono ?_;rintro e w2 ⟨u2,rfl,b2'⟩;obtain⟨y0,y1,y2,y3,y4⟩:=Jfr ((b2'.block _ (by have:=Z1.out;omega)).trans RA1.out);have y5:=(b2'.cell (p:=⟨g,o,none⟩) HG.out).trans m0))
 have B2:Hid (Po w w2):=B1.out.trans (b2'.mono B1.out.size);have m2:=(b2'.cell (p:=⟨g,o+k,none⟩) HG.out).trans m1;have H2:=Pe (H1.out.below b2');have RA2:Hid (w2.heap[w.heap.size]?=some (boxT s r c q (.slice A l.length n))):=(b2'.block _ (by have:=Z1.out;omega)).trans RA1.out;have K2:=Pe (fun W (hW:Po w2 W)=>Jos (C1.out E W (H2.out.below hW)) hW);have Z2:Hid (w.heap.size<w2.heap.size):=Ps (by have:=Z1.out;omega) b2'.size;have HG2:Hid (g<w2.heap.size):=Ps HG.out b2'.size;clear y0 y1 y2 y3 y4 y5 b2' K1 m0 m1 p0 p1 p2 p3 p4 B1 RA1 H1 Z1;obtain⟨p0,p1,p2,p3,p4⟩:=Jfr RA2.out;go_wp2_with fail;go_region_held3 (fun W=>W.cell? ⟨w.heap.size,0,none⟩=some (.string s)/\W.cell? ⟨w.heap.size,1,none⟩=some (.int .i64 r)/\W.cell? ⟨w.heap.size,2,none⟩=some (.int .i64 c)/\W.cell? ⟨w.heap.size,3,none⟩=some (.bool q)/\W.cell? ⟨w.heap.size,4,none⟩=some (.slice A l.length n)/\W.cell? ⟨g,o+k,none⟩=some (.int .i64 E)) (first | assumption | (exact⟨Kn,Kn,Kn,Kn,Kn,Kn⟩)) (first
  | (go_at_call 236;with_reducible refine(K2.out _ Km).mono ?_;rintro e w3 ⟨u3,rfl,b3'⟩;obtain⟨y0,y1,y2,y3,y4⟩:=Jfr ((b3'.block _ Z2.out).trans RA2.out);have y5:=(b3'.cell (p:=⟨g,o+k,none⟩) HG2.out).trans m2))
 have B3:Hid (Po w w3):=B2.out.trans (b3'.mono B2.out.size);clear y0 y1 y2 y3 y4 y5 b3' K2 m2 p0 p1 p2 p3 p4 B2 RA2 H2 C1;generalize errC l a=x1 at T1;generalize errC l E=x2 at T2;by_cases h1:x1=10
 ·have g1:(x1 != 10)=false:=Jap h1
  have R:Hid (false=R0):=by
   show _=_
   rw[<-HR.out,T1.out.1 h1];rfl
  clear h1 T1 T2 HR;exact Zy
 have g1:(x1 != 10)=true:=Jaf h1;have Q1:fitC l a=true:=by
  cases hh:fitC l a with
  | true=>rfl
  | false=>exact absurd (T1.out.2 hh) h1
 by_cases h2:x2=10
 ·have g2:(x2 != 10)=false:=Jap h2
  have R:Hid (false=R0):=by
   show _=_
   rw[<-HR.out,Q1,T2.out.1 h2];rfl
  clear h1 h2 T1 T2 HR Q1;exact Zy
 have g2:(x2 != 10)=true:=Jaf h2;have Q2:fitC l E=true:=by
  cases hh:fitC l E with
  | true=>rfl
  | false=>exact absurd (T2.out.2 hh) h2
 have R:Hid (true=R0):=by
  show _=_
  rw[<-HR.out,Q1,Q2];rfl
 clear h1 h2 T1 T2 HR Q1 Q2;exact Zy
theorem met_a(ht:f.1=g.1)(h:¬g.2.1<f.2.2.1):metF f g=false:=by rw[Jif ht];exact Qdb h
theorem met_b(ht:f.1=g.1)(h:¬f.2.1<g.2.2.1):metF f g=false:=by rw[Jif ht];exact Qda h
theorem J9t(ht:f.1=g.1)(h:g.2.1<f.2.2.1)(k:f.2.1<g.2.2.1):metF f g=true:=by rw[Jif ht];exact Jyr k h
theorem J9u(h:l[q]?=some g)(ht:g.1=t)(hs:sndF g=true):(insF t (l.take q)).length+cntF g=(insF t (l.take (q+1))).length:=by
 rw[Jyo h ht,Pq,Jhb hs,Jhc]
theorem Jl6(h:l[q]?=some g)(hq:q<i):hitF ((l.take i).take (q+1)) f=(hitF ((l.take i).take q) f || metF f g) :=
 J3y (by rw[List.getElem?_take,if_pos hq];exact h)
theorem Jih(hq:i<=q):hitF ((l.take i).take q) f=hitF (l.take i) f:=by
 rw[List.take_of_length_le J8]
def Jd9(l:List Fq)(i:Nat)(f:Fq)(q n:Nat)(m:Bool):Prop:=n=(insF f.1 (l.take q)).length/\n<=864000000/\m=hitF ((l.take i).take q) f
theorem Jd9.start(l:List Fq)(i:Nat)(f:Fq):Jd9 l i f 0 0 false:=⟨rfl,Nat.zero_le _,rfl⟩
theorem Jd9.skip(h:Jd9 l i f q n m)(hg:l[q]?=some g)(ht:g.1≠f.1):Jd9 l i f (q+1) n m:=by
 obtain⟨h1,h2,h3⟩:=h;refine⟨by rw[J7k hg ht];exact h1,h2,?_⟩;by_cases hq:q<i
 ·rw[Jl6 hg hq,Joj (fun e=>ht e.symm),Bool.or_false]
  exact h3
 ·rw[Jih Ka]
  rw[Jih Ka] at h3;exact h3
theorem Jd9.count(h:Jd9 l i f q n m)(hl:l.length<=5000)(hg:l[q]?=some g)(ht:g.1=f.1)(hs:sndF g=true):n+cntF g=(insF f.1 (l.take (q+1))).length/\n+cntF g<=864000000:=by
 obtain⟨h1,h2,h3⟩:=h;have e:=J9u hg ht hs;rw[<-h1] at e;refine⟨e,?_⟩;rw[e];have h4:=Js0 f.1 (l.take (q+1));have h5:(l.take (q+1)).length<=5000:=J8;omega
theorem Jd9.last(h:Jd9 l i f q n m)(hn:n'=(insF f.1 (l.take (q+1))).length/\n'<=864000000)(hq:¬q<i):Jd9 l i f (q+1) n' m:=by
 refine⟨hn.1,hn.2,?_⟩;have h3:=h.2.2;rw[Jih Ka] at h3 |-;exact h3
theorem Jd9.apart(h:Jd9 l i f q n m)(hn:n'=(insF f.1 (l.take (q+1))).length/\n'<=864000000)(hg:l[q]?=some g)(hq:q<i)(hm:metF f g=false):Jd9 l i f (q+1) n' m:=by
 refine⟨hn.1,hn.2,?_⟩;rw[Jl6 hg hq,hm,Bool.or_false];exact h.2.2
theorem Jd9.meets(_:Jd9 l i f q n m)(hn:n'=(insF f.1 (l.take (q+1))).length/\n'<=864000000)(hg:l[q]?=some g)(hq:q<i)(hm:metF f g=true):Jd9 l i f (q+1) n' true:=by
 refine⟨hn.1,hn.2,?_⟩;rw[Jl6 hg hq,hm,Bool.or_true]
theorem Jd9.done(h:Jd9 l i f q n m)(hf:l[i]?=some f)(hq:q=i+1):n=(insF f.1 (l.take i++[f])).length/\m=hitF (l.take i) f:=by
 obtain⟨h1,h2,h3⟩:=h;subst hq;rw[Jih Ka] at h3;rw[<-Jbx l i f hf];exact⟨h1,h3⟩
theorem rchk_any(vl:Value)(l:List Fq)(hl:l.length<=5000)(vt:Value)(ts:List Tp)(hts:∀x∈ts,(clT x).length<=1000000)(w:World)(h:LstF w vl l)(ht:Jcs w vt ts):
  Pc 73 #[vl,vt] w (.tuple #[.int .i64 ((chkF (ts.map clT) l).1),.int .i64 ((chkF (ts.map clT) l).2)]):=by
 have H:=Pe h;have HT:=Pe ht;have HTS:=Pe hts;have TL:Hid ((ts.map clT).length=ts.length):=List.length_map _;obtain⟨A,n,rfl,-,-,-⟩:=h;obtain⟨⟨D,m,rfl,-,-,-⟩,-⟩:=ht;obtain⟨q,hq⟩:=Pi (chkF (ts.map clT) l);rw[hq];by_cases h0:64<l.length
 ·have E:Hid (q=(0,5)):=by rw[<-hq];exact Jon h0
  have g:(64:Int)<(l.length:Int):=Ka;clear hq hts hl h0;go_enter func73,ntmps73;exact Xa
 have ST:Hid (q=fbF (badF (ts.map clT)) (fun f=>f) ((l.take 0).map fun f=>f) 0 (l.drop 0)):=by rw[<-hq];exact Jkn h0
 have g:decide ((64:Int)<(l.length:Int))=false:=Pj Ka;have g':decide (64<l.length)=false:=Pj h0;clear hq hts h0;go_enter func73,ntmps73;go_wp2_with fail;go_loopw [6] (fun i wr=>∃k:Nat,i=.int .i64 k/\k<=l.length/\Hid (q=fbF (badF (ts.map clT)) (fun f=>f) ((l.take k).map fun f=>f) k (l.drop k))/\Hid (∀(j:Nat) f,j<k->l[j]?=some f->sndF f=true)/\Hid (Po w wr)) (fun i _=>l.length - (intOf i).toNat);case atStart=>exact⟨0,rfl,Nat.zero_le _,ST,Pe (fun j f hj=>absurd hj (Nat.not_lt_zero _)),Pe Pg⟩
 case round =>
  clear ST g g';obtain⟨i,rfl,hk,hz,HALL,HB⟩:=hrel;by_cases hlt:i<l.length
  ·obtain⟨⟨t,a,b,v⟩,hf⟩:=Jah hlt
   obtain⟨p,o,rfl,hp,m0,m1,m2,m3⟩:=four_at (H.out.below HB.out) hf;have gi:(i:Int)<(l.length:Int):=Ka;obtain⟨w7,hw7⟩:=Pi (wr.alloc (boxF t a b v));obtain⟨b7,p0,p1,p2,p3,s7,c7⟩:=Jd8 hw7;have B7:Hid (Po w w7):=HB.out.trans (b7.mono HB.out.size);have C7:=Pe c7;have S7:=Pe s7;have HF:=Pe hf;have HZ:=Pe (fun e he hne=>Js7 (e:=e) hz.out hf he hne);have HN:=Pe (fun he=>Js8 hz.out hf he);clear b7 c7 s7 hp hf hz HB;by_cases n0:t<0
   ·have R:=Pe (HZ.out 9 (Jig (.inl n0)) Kd)
    clear HZ HN;exact J6
   have g0:decide (t<0)=false:=Pj n0;by_cases n1:(ts.length:Int)<=t
   ·have R:=Pe (HZ.out 9 (Jig (.inr Z8)) Kd)
    clear HZ HN;exact J6
   have n2:¬((ts.map clT).length:Int)<=t:=Z8;obtain⟨N,rfl⟩:∃N:Nat,t=(N:Int):=⟨t.toNat,Ka⟩;have g1:decide ((ts.length:Int)<=(N:Int))=false:=Pj n1;have g1':decide (ts.length<=N)=false:=Pj Ka;have D1:=Pe (fun d os=>Calls.regrown_of (w:=w7) (d:=d) (os:=os) (Jta (N:Int) a b v _));have Q0:=fun d os=>cell_regrown p0 d os
   have Q1:=fun d os=>cell_regrown p1 d os
   have Q2:=fun d os=>cell_regrown p2 d os
   have Q3:=fun d os=>cell_regrown p3 d os
   cases h3:sndF ((N:Int),a,b,v) with
   | false =>
    rw[h3] at D1;have R:=Pe (HZ.out 10 (Jkm n0 n2 h3) Kd);clear HZ HN h3 n0 n1 n2;go_wp2_with fail;refine wp_region_quiet_below Kl Kl ?_;repeat (go_big_quiet_step (first | with_reducible exact D1.out _ _))
    refine wpQuiet_nil ?_;intro w1 hw1;have B1:Hid (Po w w1):=by
     exact Zs
    clear hw1 D1 Q0 Q1 Q2 Q3;exact Xj
   | true =>
    rw[h3] at D1;obtain⟨⟨id,rr,kk,ff,cv,cl⟩,hx⟩:=Jah (show N<ts.length by omega);obtain⟨nm,hnm⟩:=Pi (str id);have HT7:=Pe (HT.out.below B7.out);obtain⟨bt,ot,BB,mm,rfl,rfl,hbt,r0,r1,r2,r3,r4,lc,-,oc⟩:=Ja7 HT7.out hx hnm;have hcl:cl.length<=1000000:=HTS.out _ (List.mem_iff_getElem?.2 ⟨N,hx⟩);have HC:clsF (ts.map clT) ((N:Int),a,b,v)=cl:=J7n (n:=N) rfl (by rw[List.getElem?_map,hx];rfl);have J0:=fun d os=>cell_regrown r0 d os
    have J1:=fun d os=>cell_regrown r1 d os
    have J2:=fun d os=>cell_regrown r2 d os
    have J3:=fun d os=>cell_regrown r3 d os
    have J4:=fun d os=>cell_regrown r4 d os
    have D2:=Pe (fun d os=>Calls.regrown_of (w:=w7) (d:=d) (os:=os) (Jy4 nm rr kk ff (.slice BB cl.length mm) cl hcl oc (N:Int) a b v h3 _ (lc.below (below_regrown w7 d os))));have e0:allF cl ((N:Int),a,b,v)=allF (clsF (ts.map clT) ((N:Int),a,b,v)) ((N:Int),a,b,v):=by rw[HC]
    rw[e0] at D2;have gN:(N:Int)<(ts.length:Int):=Ka;clear e0 HC hx hnm lc oc hcl HT7 hbt;cases h4:allF (clsF (ts.map clT) ((N:Int),a,b,v)) ((N:Int),a,b,v) with
    | false =>
     rw[h4] at D2;have R:=Pe (HZ.out 10 (Jok n0 n2 h4) Kd);clear HZ HN h3 h4 n0 n1 n2;go_wp2_with fail;refine wp_region_quiet_below Kl Kl ?_;repeat (go_big_quiet_step (first | with_reducible exact D1.out _ _ | with_reducible exact D2.out _ _))
     refine wpQuiet_nil ?_;intro w1 hw1;have B1:Hid (Po w w1):=by
      exact Zs
     clear hw1 D1 Q0 Q1 Q2 Q3;clear J0 J1 J2 J3 J4 D2;exact Xj
    | true =>
     rw[h4] at D2;have SF:=Pe h3;have BM:=Pe (fun h5=>Jol (ts:=ts.map clT) (seen:=l.take i) n0 n2 h3 h4 h5);have BT:=Pe (fun h5 h6=>Js6 (ts:=ts.map clT) (seen:=l.take i) n0 n2 h3 h4 h5 h6);have BN:=Pe (fun h5 h6=>Jom (ts:=ts.map clT) (seen:=l.take i) n0 n2 h3 h4 h5 h6);clear h3 h4 n0 n1 n2;go_wp2_with fail;refine wp_region_quiet_below Kl Kl ?_;repeat (go_big_quiet_step (first | with_reducible exact D1.out _ _ | with_reducible exact D2.out _ _))
     refine wpQuiet_nil ?_;intro w1 hw1;have K1:Hid (Po w7 w1):=by
      obtain⟨p,rfl⟩:=hw1;exact below_regrown w7 p.d p.os
     have B1:Hid (Po w w1):=by
      exact Zs
     clear hw1 D1 Q0 Q1 Q2 Q3;clear J0 J1 J2 J3 J4 D2 r0 r1 r2 r3 r4 g0 g1 g1' gN m0 m1 m2 m3;go_wp2_with fail;go_loopw [8,9,10] (fun cn mt j wr=>∃(x:Nat) (y:Bool) (z:Nat),cn=.int .i64 (x:Int)/\mt=.bool y/\j=.int .i64 (z:Int)/\z<=i+1/\x<=864000000/\Hid (Jd9 l i ((N:Int),a,b,v) z x y)/\Hid (Po w1 wr)) (fun _ _ j _=>i+1 - (intOf j).toNat);case atStart=>exact⟨0,false,0,rfl,rfl,rfl,Nat.zero_le _,Nat.zero_le _,Pe (Jd9.start l i _),Pe Pg⟩
     case round =>
      obtain⟨x,y,z,rfl,rfl,rfl,hzz,hxx,HC,HW⟩:=hrel;obtain⟨f0,f1,f2,f3⟩:=Jbm ((HW.out.block _ (Ps S7.out K1.out.size)).trans ((K1.out.block _ S7.out).trans C7.out));by_cases hzi:z<=i
      ·obtain⟨⟨t',a',b',v'⟩,hg⟩:=Jah (show z<l.length by omega)
       obtain⟨p',o',e',hp',k0,k1,k2,k3⟩:=four_at (H.out.below (B1.out.trans (HW.out.mono B1.out.size))) hg;cases e';have gz:(z:Int)<=(i:Int):=Ka;have gzl:(z:Int)<(l.length:Int):=Ka;by_cases he:t'=(N:Int)
       ·have d0:=Jap he
        have sg:sndF (t',a',b',v')=true:=by
         by_cases hzk:z<i
         ·exact HALL.out z _ hzk hg
         ·obtain rfl:z=i:=Ka
          have:=hg.symm.trans HF.out;cases this;exact SF.out
        have CC:=HC.out.count hl hg he sg;have CG:=Pe (fun W (hW:Po wr W)=>Jl5 (J32 t' a' b' v' sg W) hW);obtain⟨cg,hcg⟩:=Pi (cntF (t',a',b',v'));rw[hcg] at CC CG;have CH:=Pe CC;have hc2:x+cg<=864000000:=CC.2;have HP:=Pe hp';have HG:=Pe hg;have HE:=Pe he;clear CC hcg sg hp' hg he;by_cases hzk:z<i
        ·have gk:(z:Int)<(i:Int):=Ka
         by_cases hA:a'<b
         ·by_cases hB:a<b'
          ·have N1:=Pe (HC.out.meets CH.out HG.out hzk (J9t (f:=((N:Int),a,b,v)) (g:=(t',a',b',v')) HE.out.symm hA hB))
           clear HC HG HE CH hzk;go_wp2_with fail;go_quiet (fail);have bq:=Jab (Below.refl wr.heap.size wr) nq;have C4:=Pe (CG.out _ bq);have k0':=(bq.cell (p:=⟨p,o+z*4,none⟩) HP.out).trans k0;have k1':=(bq.cell (p:=⟨p,o+z*4+1,none⟩) HP.out).trans k1;have k2':=(bq.cell (p:=⟨p,o+z*4+2,none⟩) HP.out).trans k2;have k3':=(bq.cell (p:=⟨p,o+z*4+3,none⟩) HP.out).trans k3;generalize wr.drewN nq=w4 at bq C4 k0' k1' k2' k3' |-;go_wp2_with fail;refine C4.out.mono ?_;rintro e w5 ⟨rfl,b5⟩;have W5:Hid (Po w1 w5):=HW.out.trans (b5.mono HW.out.size);obtain⟨f0',f1',f2',f3'⟩:=Jbm ((W5.out.block _ (Ps S7.out K1.out.size)).trans ((K1.out.block _ S7.out).trans C7.out));have k1'':=(b5.cell (p:=⟨p,o+z*4+1,none⟩) HP.out).trans k1;have k2'':=(b5.cell (p:=⟨p,o+z*4+2,none⟩) HP.out).trans k2;clear bq b5 C4 CG HW k0' k1' k2' k3' k0 k1 k2 k3 f0 f1 f2 f3;go_wp2_with fail;go_quiet (fail);have bq:=Jab (Below.refl w5.heap.size w5) nq;generalize w5.drewN nq=w6 at bq |-;have W6:Hid (Po w1 w6):=W5.out.trans (bq.mono W5.out.size);clear bq W5 k1'' k2'' f0' f1' f2' f3';go_wp2_with fail;go_roundw;case rel=>exact⟨x+cg,true,z+1,Kj,rfl,Kj,Ka,hc2,N1,W6⟩
           case measure=>exact Q7
          ·have dB:decide (a<b')=false:=Pj hB
           have N1:=Pe (HC.out.apart CH.out HG.out hzk (met_b (f:=((N:Int),a,b,v)) (g:=(t',a',b',v')) HE.out.symm hB));clear HC HG HE CH hB hzk;go_wp2_with fail;go_quiet (fail);have bq:=Jab (Below.refl wr.heap.size wr) nq;have C4:=Pe (CG.out _ bq);have k0':=(bq.cell (p:=⟨p,o+z*4,none⟩) HP.out).trans k0;have k1':=(bq.cell (p:=⟨p,o+z*4+1,none⟩) HP.out).trans k1;have k2':=(bq.cell (p:=⟨p,o+z*4+2,none⟩) HP.out).trans k2;have k3':=(bq.cell (p:=⟨p,o+z*4+3,none⟩) HP.out).trans k3;generalize wr.drewN nq=w4 at bq C4 k0' k1' k2' k3' |-;go_wp2_with fail;refine C4.out.mono ?_;rintro e w5 ⟨rfl,b5⟩;have W5:Hid (Po w1 w5):=HW.out.trans (b5.mono HW.out.size);obtain⟨f0',f1',f2',f3'⟩:=Jbm ((W5.out.block _ (Ps S7.out K1.out.size)).trans ((K1.out.block _ S7.out).trans C7.out));have k1'':=(b5.cell (p:=⟨p,o+z*4+1,none⟩) HP.out).trans k1;have k2'':=(b5.cell (p:=⟨p,o+z*4+2,none⟩) HP.out).trans k2;clear bq b5 C4 CG HW k0' k1' k2' k3' k0 k1 k2 k3 f0 f1 f2 f3;go_wp2_with fail;go_quiet (fail);have bq:=Jab (Below.refl w5.heap.size w5) nq;generalize w5.drewN nq=w6 at bq |-;have W6:Hid (Po w1 w6):=W5.out.trans (bq.mono W5.out.size);clear bq W5 k1'' k2'' f0' f1' f2' f3';go_wp2_with fail;go_roundw;case rel=>exact⟨x+cg,y,z+1,Kj,rfl,Kj,Ka,hc2,N1,W6⟩
           case measure=>exact Q7
         ·have dA:decide (a'<b)=false:=Pj hA
          have N1:=Pe (HC.out.apart CH.out HG.out hzk (met_a (f:=((N:Int),a,b,v)) (g:=(t',a',b',v')) HE.out.symm hA));clear HC HG HE CH hA hzk;go_wp2_with fail;go_quiet (fail);have bq:=Jab (Below.refl wr.heap.size wr) nq;have C4:=Pe (CG.out _ bq);have k0':=(bq.cell (p:=⟨p,o+z*4,none⟩) HP.out).trans k0;have k1':=(bq.cell (p:=⟨p,o+z*4+1,none⟩) HP.out).trans k1;have k2':=(bq.cell (p:=⟨p,o+z*4+2,none⟩) HP.out).trans k2;have k3':=(bq.cell (p:=⟨p,o+z*4+3,none⟩) HP.out).trans k3;generalize wr.drewN nq=w4 at bq C4 k0' k1' k2' k3' |-;go_wp2_with fail;refine C4.out.mono ?_;rintro e w5 ⟨rfl,b5⟩;have W5:Hid (Po w1 w5):=HW.out.trans (b5.mono HW.out.size);obtain⟨f0',f1',f2',f3'⟩:=Jbm ((W5.out.block _ (Ps S7.out K1.out.size)).trans ((K1.out.block _ S7.out).trans C7.out));have k1'':=(b5.cell (p:=⟨p,o+z*4+1,none⟩) HP.out).trans k1;have k2'':=(b5.cell (p:=⟨p,o+z*4+2,none⟩) HP.out).trans k2;clear bq b5 C4 CG HW k0' k1' k2' k3' k0 k1 k2 k3 f0 f1 f2 f3;go_wp2_with fail;go_quiet (fail);have bq:=Jab (Below.refl w5.heap.size w5) nq;generalize w5.drewN nq=w6 at bq |-;have W6:Hid (Po w1 w6):=W5.out.trans (bq.mono W5.out.size);clear bq W5 k1'' k2'' f0' f1' f2' f3';go_wp2_with fail;go_roundw;case rel=>exact⟨x+cg,y,z+1,Kj,rfl,Kj,Ka,hc2,N1,W6⟩
          case measure=>exact Q7
        ·have dk:decide (z<i)=false:=Pj hzk
         have dk':decide ((z:Int)<(i:Int))=false:=Pj Ka;have N1:=Pe (HC.out.last CH.out hzk);clear HC HG HE CH hzk;go_wp2_with fail;go_quiet (fail);have bq:=Jab (Below.refl wr.heap.size wr) nq;have C4:=Pe (CG.out _ bq);have k0':=(bq.cell (p:=⟨p,o+z*4,none⟩) HP.out).trans k0;have k1':=(bq.cell (p:=⟨p,o+z*4+1,none⟩) HP.out).trans k1;have k2':=(bq.cell (p:=⟨p,o+z*4+2,none⟩) HP.out).trans k2;have k3':=(bq.cell (p:=⟨p,o+z*4+3,none⟩) HP.out).trans k3;generalize wr.drewN nq=w4 at bq C4 k0' k1' k2' k3' |-;go_wp2_with fail;refine C4.out.mono ?_;rintro e w5 ⟨rfl,b5⟩;have W5:Hid (Po w1 w5):=HW.out.trans (b5.mono HW.out.size);obtain⟨f0',f1',f2',f3'⟩:=Jbm ((W5.out.block _ (Ps S7.out K1.out.size)).trans ((K1.out.block _ S7.out).trans C7.out));have k1'':=(b5.cell (p:=⟨p,o+z*4+1,none⟩) HP.out).trans k1;have k2'':=(b5.cell (p:=⟨p,o+z*4+2,none⟩) HP.out).trans k2;clear bq b5 C4 CG HW k0' k1' k2' k3' k0 k1 k2 k3 f0 f1 f2 f3;go_wp2_with fail;go_quiet (fail);have bq:=Jab (Below.refl w5.heap.size w5) nq;generalize w5.drewN nq=w6 at bq |-;have W6:Hid (Po w1 w6):=W5.out.trans (bq.mono W5.out.size);clear bq W5 k1'' k2'' f0' f1' f2' f3';go_wp2_with fail;go_roundw;case rel=>exact⟨x+cg,y,z+1,Kj,rfl,Kj,Ka,hc2,N1,W6⟩
         case measure=>exact Q7
       ·have d0:=Jaf he
        have N1:=Pe (HC.out.skip hg he);clear hg hp' he HC;go_wp2_with fail;go_quiet (fail);have bq:=Jab (Below.refl wr.heap.size wr) nq;generalize wr.drewN nq=w4 at bq |-;have W4:Hid (Po w1 w4):=HW.out.trans (bq.mono HW.out.size);clear bq HW;go_wp2_with fail;go_roundw;case rel=>exact⟨x,y,z+1,rfl,rfl,Kj,Ka,hxx,N1,W4⟩
        case measure=>exact Q7
      ·have dz:decide (z<=i)=false:=Pj hzi
       have dz':decide ((z:Int)<=(i:Int))=false:=Pj Ka;obtain⟨e1,e2⟩:=HC.out.done HF.out Ka;have B2:Hid (Po w wr):=B1.out.trans (HW.out.mono B1.out.size);have E1:=Pe e1;clear HC HW e1 f0 f1 f2 f3 hzi hzz;by_cases h5:256<x
       ·have R:=Pe (HZ.out 17 (BM.out Xe) Kd)
        have g5:(256:Int)<(x:Int):=Ka;exact Z0
       have g5:decide ((256:Int)<(x:Int))=false:=Pj Ka;have g5':decide (256<x)=false:=Pj h5;cases y with
       | true =>
        have R:=Pe (HZ.out 8 (BT.out Xe e2.symm) Kd);exact Z0
       | false =>
        have R:=Pe (HN.out (BN.out Xe e2.symm));have A2:Hid (∀(j:Nat) f,j<i+1->l[j]?=some f->sndF f=true):=by
         intro j f hj hjf;by_cases hji:j<i
         ·exact HALL.out j f hji hjf
         ·obtain rfl:j=i:=Ka
          have:=hjf.symm.trans HF.out;cases this;exact SF.out
        clear HZ HN BM BT BN e2 h5 HALL;go_wp2_with fail;go_roundw;case rel=>exact⟨i+1,Kj,Ka,R,A2,B2⟩
        case measure=>exact Q7
  ·have R:=Pe (Js9 hz.out Ka)
   have d:decide (i<l.length)=false:=Kg;clear hz hlt HALL;exact V7
end S18
end Go.Proofs.YtpifdbphmnifdaaGreatDoor
