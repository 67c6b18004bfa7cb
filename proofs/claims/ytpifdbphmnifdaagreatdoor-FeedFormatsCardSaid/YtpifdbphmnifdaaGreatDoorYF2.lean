/-
  Facts. Condition: each theorem's own.
-/
import Derived.Lib.QuietBelow
import Derived.DeepKeys4
import Derived.Test.YtpifdbphmnifdaaGreatDoorYF1
set_option maxRecDepth 100000
set_option maxHeartbeats 8000000
section
variable {p:Prop}
theorem V4(h:p:=by exact⟨rfl,rfl⟩):p:=h
theorem V5(h:p:=by go_wp2_with fail;go_ret2;exact⟨ret_chk Va Va,hn.out⟩):p:=h
theorem V6(h:p:=by go_wp2_with fail;go_ret2;exact⟨ret_chk Va Va,(Jb4 hn nq).out⟩):p:=h
theorem V7(h:p:=by go_wp2_with fail;go_ret2;exact⟨ret_chk Va Va,HB.out⟩):p:=h
theorem V8(h:p:=by go_wp2_with fail;go_ret2;exact V4):p:=h
theorem V9(h:p:=by go_wp2_with fail;go_ret2;exact⟨ret_chk Va Va,B8.out⟩):p:=h
theorem Ja(h:p:=by rw[decide_eq_false_iff_not];exact hjk):p:=h
theorem Jb(h:p:=by rintro e w8 ⟨rfl,b8⟩;have lk:=(hm.out.below b8).look (k,d) hp;simp only at lk;rw[LD] at lk;have B7:=Pe (B7.out.trans (b8.mono B7.out.size));clear b8 P hm;exact Vd):p:=h
theorem Jc(h:p:=by go_wp2_with fail;go_ret2;exact⟨ret_chk Va Va,0,rfl⟩):p:=h
theorem Jd(h:p:=by simpa using e):p:=h
theorem Je(h:p:=by rw[hy] at hx;obtain rfl:=Pp hx;exact hid):p:=h
theorem Jf(h:p:=by rw[List.mem_singleton.1 hq];exact hp):p:=h
theorem Jg(h:p:=by rw[h3 p hp];exact Pj hm):p:=h
end
open Go.Proofs.Tryz
namespace Go.Proofs.YtpifdbphmnifdaaGreatDoor
namespace S14
open Go
abbrev Cl:=List UInt8×(Nat->Bool)×Int×Int
abbrev Ex:=Int×Int×Bool
def dayP(d:Int):Prop:=0<=d/\d<=36524
instance (d:Int):Decidable (dayP d):=by unfold dayP;infer_instance
def okR(f t:Int):Prop:=dayP f/\dayP t/\f<=t
instance (f t:Int):Decidable (okR f t):=by unfold okR;infer_instance
def badC(seen:List (List UInt8))(x:Cl):Int:=if Jak x.1=false then 12 else if x.1∈seen then 6 else if okR x.2.2.1 x.2.2.2 then 0 else 11
variable {w w7 W:World} {n d:Int} {seen:List (List UInt8)} {H:Type} {cs:List Value}
theorem Jiz{x:Cl}(h:Jak x.1=false):badC seen x=12:=by unfold badC;rw[if_pos h]
theorem Jkf{x:Cl}(h:Jak x.1=true)(h2:x.1∈seen):badC seen x=6:=by unfold badC;rw[if_neg Kx,if_pos h2]
theorem Jn3{x:Cl}(h:Jak x.1=true)(h2:x.1 ∉ seen)(h3:¬okR x.2.2.1 x.2.2.2):badC seen x=11:=by unfold badC;rw[if_neg Kx,if_neg h2,if_neg h3]
theorem badC_none{x:Cl}(h:Jak x.1=true)(h2:x.1 ∉ seen)(h3:okR x.2.2.1 x.2.2.2):badC seen x=0:=by unfold badC;rw[if_neg Kx,if_neg h2,if_pos h3]
def idC(x:Cl):List UInt8:=x.1
def chkC(l:List Cl):Int×Int:=if 64<l.length then(0,5) else fbF badC idC [] 0 l
theorem chkC_many{l:List Cl}(h:64<l.length):chkC l=(0,5):=by unfold chkC;rw[if_pos h]
theorem chkC_start{l:List Cl}(h:l.length<=64):chkC l=fbF badC idC ((l.take 0).map idC) 0 (l.drop 0):=by unfold chkC;rw[if_neg Ka];rfl
def badX(n:Int)(seen:List (Int×Int))(e:Ex):Int:=if e.1<0\/n<=e.1 then 9 else if ¬dayP e.2.1 then 11 else if(e.1,e.2.1)∈seen then 6 else 0
theorem Jsl{seen:List (Int×Int)}{e:Ex}(h:e.1<0\/n<=e.1):badX n seen e=9:=by unfold badX;rw[if_pos h]
theorem Jn4{seen:List (Int×Int)}{e:Ex}(h:¬(e.1<0\/n<=e.1))(h2:¬dayP e.2.1):badX n seen e=11:=by unfold badX;rw[if_neg h,if_pos h2]
theorem Jkg{seen:List (Int×Int)}{e:Ex}(h:¬(e.1<0\/n<=e.1))(h2:dayP e.2.1)(h3:(e.1,e.2.1)∈seen):badX n seen e=6:=by unfold badX;rw[if_neg h,if_neg (fun k=>k h2),if_pos h3]
theorem Jn5{seen:List (Int×Int)}{e:Ex}(h:¬(e.1<0\/n<=e.1))(h2:dayP e.2.1)(h3:(e.1,e.2.1) ∉ seen):badX n seen e=0:=by unfold badX;rw[if_neg h,if_neg (fun k=>k h2),if_neg h3]
def plX(e:Ex):Int×Int:=(e.1,e.2.1)
def chkX(n:Int)(l:List Ex):Int×Int:=if 256<l.length then(0,5) else fbF (badX n) plX [] 0 l
theorem Jn6{l:List Ex}(h:256<l.length):chkX n l=(0,5):=by unfold chkX;rw[if_pos h]
theorem Jkh{l:List Ex}(h:l.length<=256):chkX n l=fbF (badX n) plX ((l.take 0).map plX) 0 (l.drop 0):=by unfold chkX;rw[if_neg Ka];rfl
open Go.RowKit Go.Sort
def ce(x:Cl):List Value:=[.string (str x.1),.bool (x.2.1 0),.bool (x.2.1 1),.bool (x.2.1 2),.bool (x.2.1 3),.bool (x.2.1 4),.bool (x.2.1 5),.bool (x.2.1 6),.int .i64 x.2.2.1,.int .i64 x.2.2.2]
theorem ce_len(x:Cl):(ce x).length=10:=rfl
abbrev LstC:=@LstG Cl ce
def xe(x:Ex):List Value:=[.int .i64 x.1,.int .i64 x.2.1,.bool x.2.2]
theorem xe_len(x:Ex):(xe x).length=3:=rfl
abbrev LstX:=@LstG Ex xe
theorem three_at{A:Option Addr}{n c:Nat}{l:List Ex}(h:LstX w (.slice A n c) l){i:Nat}{k d:Int}{f:Bool}(hs:l[i]?=some (k,d,f)):
  ∃b o,A=some ⟨b,o,none⟩/\b<w.heap.size/\w.cell? ⟨b,o+i*3,none⟩=some (.int .i64 k)/\w.cell? ⟨b,o+i*3+1,none⟩=some (.int .i64 d)/\w.cell? ⟨b,o+i*3+2,none⟩=some (.bool f):=by
 obtain⟨A',c',hv,_,_,hx⟩:=h;cases hv;have hi:=(Pm hs).1;obtain⟨b,o,rfl,hb,hcell⟩:=hx Ka;refine⟨b,o,rfl,hb,hcell (i*3) _ (by rw[<-Nat.add_zero (i*3),Jbq xe_len hs 0 Ka];rfl),(hcell (i*3+1) _ (by rw[Jbq xe_len hs 1 Ka];rfl):_),(hcell (i*3+2) _ (by rw[Jbq xe_len hs 2 Ka];rfl):_)⟩
theorem ten_at{A:Option Addr}{n c:Nat}{l:List Cl}(h:LstC w (.slice A n c) l){i:Nat}{id:List UInt8}{k:Nat->Bool}{f t:Int}(hs:l[i]?=some (id,k,f,t)){s:ByteArray}(hst:str id=s):
  ∃b o,A=some ⟨b,o,none⟩/\b<w.heap.size/\w.cell? ⟨b,o+i*10,none⟩=some (.string s)/\(∀m,m<7->w.cell? ⟨b,o+i*10+1+m,none⟩=some (.bool (k m)))/\w.cell? ⟨b,o+i*10+8,none⟩=some (.int .i64 f)/\w.cell? ⟨b,o+i*10+9,none⟩=some (.int .i64 t):=by
 subst hst;obtain⟨A',c',hv,_,_,hx⟩:=h;cases hv;have hi:=(Pm hs).1;obtain⟨b,o,rfl,hb,hcell⟩:=hx Ka;refine⟨b,o,rfl,hb,hcell (i*10) _ (by rw[<-Nat.add_zero (i*10),Jbq ce_len hs 0 Ka];rfl),fun m hm=>?_,(hcell (i*10+8) _ (by rw[Jbq ce_len hs 8 Ka];rfl):_),(hcell (i*10+9) _ (by rw[Jbq ce_len hs 9 Ka];rfl):_)⟩;have e:o+i*10+1+m=o+(i*10+(1+m)):=Ka;rw[e];refine hcell _ _ ?_;rw[Jbq ce_len hs (1+m) Ka];match m,hm with
 | 0,_=>rfl
 | 1,_=>rfl
 | 2,_=>rfl
 | 3,_=>rfl
 | 4,_=>rfl
 | 5,_=>rfl
 | 6,_=>rfl
theorem J7e{s:ByteArray}{k:Nat->Bool}{f t:Int}(h:w.alloc (.cells #[.string s,.bool (k 0),.bool (k 1),.bool (k 2),.bool (k 3),.bool (k 4),.bool (k 5),.bool (k 6),.int .i64 f,.int .i64 t] 61 (0,0))=w7):
  Po w w7/\w7.cell? ⟨w.heap.size,0,none⟩=some (.string s)/\w7.cell? ⟨w.heap.size,1,none⟩=some (.bool (k 0))/\w7.cell? ⟨w.heap.size,2,none⟩=some (.bool (k 1))/\w7.cell? ⟨w.heap.size,3,none⟩=some (.bool (k 2))/\w7.cell? ⟨w.heap.size,4,none⟩=some (.bool (k 3))/\w7.cell? ⟨w.heap.size,5,none⟩=some (.bool (k 4))/\w7.cell? ⟨w.heap.size,6,none⟩=some (.bool (k 5))/\w7.cell? ⟨w.heap.size,7,none⟩=some (.bool (k 6)) /\
   w7.cell? ⟨w.heap.size,8,none⟩=some (.int .i64 f)/\w7.cell? ⟨w.heap.size,9,none⟩=some (.int .i64 t)/\w.heap.size<w7.heap.size:=by
 subst h;have c7:=heap_alloc_new w (.cells #[.string s,.bool (k 0),.bool (k 1),.bool (k 2),.bool (k 3),.bool (k 4),.bool (k 5),.bool (k 6),.int .i64 f,.int .i64 t] 61 (0,0));exact⟨(Below.refl _ _).alloc Ph _,Vl,Vk,Vj,by rw[cell_of_row _ _ 3 _ _ _ c7];rfl,by rw[cell_of_row _ _ 4 _ _ _ c7];rfl,by rw[cell_of_row _ _ 5 _ _ _ c7];rfl,by rw[cell_of_row _ _ 6 _ _ _ c7];rfl,by rw[cell_of_row _ _ 7 _ _ _ c7];rfl,by rw[cell_of_row _ _ 8 _ _ _ c7];rfl,by rw[cell_of_row _ _ 9 _ _ _ c7];rfl,Ke⟩
theorem Jxx{k:Int}{f:Bool}(h:w.alloc (.cells #[.int .i64 k,.int .i64 d,.bool f] 116 (0,0))=w7):
  Po w w7/\w7.cell? ⟨w.heap.size,0,none⟩=some (.int .i64 k)/\w7.cell? ⟨w.heap.size,1,none⟩=some (.int .i64 d)/\w7.cell? ⟨w.heap.size,2,none⟩=some (.bool f)/\w.heap.size<w7.heap.size:=by
 subst h;have c7:=heap_alloc_new w (.cells #[.int .i64 k,.int .i64 d,.bool f] 116 (0,0));exact⟨(Below.refl _ _).alloc Ph _,Vl,Vk,Vj,Ke⟩
theorem Qcw{k:Int}(h:w.alloc (.cells #[.int .i64 k,.int .i64 d] 198 (0,0))=w7):
  Po w w7/\w7.cell? ⟨w.heap.size,0,none⟩=some (.int .i64 k)/\w7.cell? ⟨w.heap.size,1,none⟩=some (.int .i64 d)/\w.heap.size<w7.heap.size:=by
 subst h;have c7:=heap_alloc_new w (.cells #[.int .i64 k,.int .i64 d] 198 (0,0));exact⟨(Below.refl _ _).alloc Ph _,Vl,Vk,Ke⟩
theorem ret_chk{a b c:Int}(h:a=b)(k:c=d):Ending.returned (.tuple #[.int .i64 a,.int .i64 c])=.returned (.tuple #[.int .i64 b,.int .i64 d]):=Qm
theorem str_ne{id:List UInt8}{x:List UInt8}{s t:ByteArray}(hs:str x=s)(ht:str id=t)(h:x≠id):s≠t:=by
 intro e;apply h;have e2:str x=str id:=Vy;exact Vi
open Go.RowKit Go.Maps Go.WideMaps
theorem J89:laidOutB prog=true:=Kl
theorem J7f:(198:TypeId)<prog.types.size:=of_decide_eq_true Kl
theorem J9a:(match prog.underlying 198 with | some (.array _ _) | some (.struct _)=>true | _=>false)=true:=Kl
theorem Jsm:prog.cellsOf 198=2:=Kl
theorem int_cells:prog.cellsOf 3=1:=Kl
theorem Qcx:prog.keyType 198=true:=Kl
theorem Jxy:Keyed prog 198:=Keyed.of_law (deep_law_laid J89 (m:=2) Ka J7f Kl J9a)
theorem J3m:∃m,prog.types.size=m+1:=by
 cases h:prog.types.size with
 | zero=>exact absurd (h ▸ J7f:(_:Nat)<0) (Nat.not_lt_zero _)
 | succ m=>exact⟨m,rfl⟩
def Pl64(p:Int×Int):Prop:=(-9223372036854775808<=p.1/\p.1<=9223372036854775807)/\-9223372036854775808<=p.2/\p.2<=9223372036854775807
def kp(p:Int×Int):List UInt8:=keyBytes [.int .i64 p.1,.int .i64 p.2]
theorem Jsn(p:Int×Int)(h:Pl64 p):keyOf prog 198 (.agg #[.int .i64 p.1,.int .i64 p.2])=some (.string (kp p)):=by
 have w1:=WalkArith.wf_i64 h.1;have w2:=WalkArith.wf_i64 h.2;have hu:=underlying198;have hi:=underlying3;obtain⟨m,hm⟩:=J3m;unfold keyOf;simp only[hu];rw[if_pos (by simp[Qcx,Value.formed,hu,Jsm]),hm];unfold Program.keyLits;simp only[hu,Value.cells];rw[if_pos ⟨by rw[Jsm];rfl,Ke⟩];simp[int_cells,Program.keyLits,hi,w1,w2,kp]
theorem J7g{p q:Int×Int}(hp:Pl64 p)(hq:Pl64 q)(h:kp p=kp q):p=q:=by
 have h1:=Jsn p hp;have h2:=Jsn q hq;rw[<-h] at h2;have:=Jxy.inj h1 h2;simp at this;exact Prod.ext this.1 this.2
def MapP(w:World)(b:Nat)(ls:List (Int×Int)):Prop:=(∀p∈ls,Pl64 p)/\∃D:Dm,w.ownsMap prog 198 (plainElem prog 4) b ls.length D/\IsMap D/\(∀p,Pl64 p->has D (.string (kp p))=decide (p∈ls))/\∀p z,p∈ls->D.atKey (.string (kp p)) z=.lit (.bool true)
theorem MapP.made(w:World):MapP (w.alloc (.map #[] 0)) w.heap.size []:=⟨fun p hp=>absurd hp Ke,.map [],World.ownsMap_made _ _ _ _,isMap_empty,fun x _=>Qw,fun x z h=>Qv⟩
theorem MapP.below{w':World}{b:Nat}{ls:List (Int×Int)}(h:MapP w b ls)(hb:Po w w'):MapP w' b ls:=by
 obtain⟨h0,D,h1,h2⟩:=h;exact⟨h0,D,h1.kept (Jnr hb) Ke,h2⟩
theorem MapP.look{b:Nat}{ls:List (Int×Int)}(h:MapP w b ls)(p:Int×Int)(hp:Pl64 p):
  (Instr.lookup 195 (.map (some b)) (.agg #[.int .i64 p.1,.int .i64 p.2]) false).run prog w=.ok (.bool (decide (p∈ls))) w:=by
 obtain⟨h0,D,h1,h2,h3,h4⟩:=h;obtain⟨v,ps,hrun,hv⟩:=h1.lookup Jxy underlying195 (Jgc w) (plainElem_bool underlying4 false) (Jsn p hp);obtain⟨c,rfl,hc⟩:=Jfp hv;have hc:=congrArg Prod.fst hc;rw[hrun];have:c=decide (p∈ls):=by
  by_cases hm:p∈ls
  ·rw[h4 _ _ hm] at hc
   exact K9
  ·rw[atKey_of_not_has Jg] at hc
   exact K9
 rw[this]
theorem Qcy(w:World){ops:Array Oper}{rest:List Oper}{o:Oper}{a:Act}{Q:Exit->Act->World->Prop}(hgd:o.guard=none)(m x v:Operand)(ho:o.op=Op.mapUpdate 195 m x v)
  (b:Nat) (ls:List (Int×Int)) (hm:a.eval m=.map (some b)) (hown:MapP w b ls) (p:Int×Int) (hp:Pl64 p) (hx:a.eval x=.agg #[.int .i64 p.1,.int .i64 p.2]) (hv:a.eval v=.bool true)
  (hl:ls.length<1099511627776) (h:∀w',MapP w' b (ls++[p])->w.grownBy w' (some b)->wpList prog ops Q rest (a.put o.dst undef) w'):wpList prog ops Q (o::rest) a w:=by
 obtain⟨h0,D,h1,h2,h3,h4⟩:=hown;refine wpList_mapUpdate_own w hgd m x v 195 ho 198 4 Jxy underlying195 _ b ls.length D hm h1 Kr _ _ _ hx hv (Jsn p hp) _ [] (plainElem_bool underlying4 true) ?_;intro w' g1 g2;refine h w' ⟨fun q hq=>?_,_,Qu,h2.put _ _,fun q hq=>?_,fun q z hi=>?_⟩ g2
 ·rcases List.mem_append.1 hq with hq | hq
  ·exact h0 q hq
  ·exact Jf
 ·by_cases hx:q=p
  ·subst hx
   exact Qh
  ·rw[has_put_other (fun e=>hx (J7g hq hp Jd)),h3 q hq]
   simp[hx]
 ·by_cases hx:q=p
  ·subst hx
   exact Qt
  ·have hq:q∈ls:=Qr
   rw[atKey_put_other (fun e=>hx (J7g (h0 q hq) hp Jd))];exact h4 q z hq
open Go.RowKit
theorem Jg8(n:Int)(w:World):Pb 258 #[.int .i64 n] w (.bool (decide (dayP n))):=by
 by_cases h0:0<=n
 ·by_cases h1:n<=36524
  ·have R:=Pe (Pk (p:=dayP n) ⟨h0,h1⟩)
   go_enter func258,ntmps258;exact Kf
  ·have R:=Pe (Pj (p:=dayP n) fun h=>h1 h.2)
   have d1:decide (n<=36524)=false:=Pj h1;clear h1;go_enter func258,ntmps258;exact Kf
 ·have R:=Pe (Pj (p:=dayP n) fun h=>h0 h.1)
  have d0:decide (0<=n)=false:=Pj h0;clear h0;go_enter func258,ntmps258;exact Kf
theorem Jfx(n:Int)(w:World):Pb 159 #[.int .i64 n] w (.bool (decide (dayP n))):=by
 by_cases h0:0<=n
 ·by_cases h1:n<=36524
  ·have R:=Pe (Pk (p:=dayP n) ⟨h0,h1⟩)
   go_enter func159,ntmps159;exact Kf
  ·have R:=Pe (Pj (p:=dayP n) fun h=>h1 h.2)
   have d1:decide (n<=36524)=false:=Pj h1;clear h1;go_enter func159,ntmps159;exact Kf
 ·have R:=Pe (Pj (p:=dayP n) fun h=>h0 h.1)
  have d0:decide (0<=n)=false:=Pj h0;clear h0;go_enter func159,ntmps159;exact Kf
theorem Jn7(k d:Int)(f:Bool)(w:World):Pc 192 #[.agg #[.int .i64 k,.int .i64 d,.bool f]] w (.agg #[.int .i64 k,.int .i64 d]):=by
 obtain⟨w1,h1⟩:=Pi (w.alloc (.cells #[.int .i64 k,.int .i64 d,.bool f] 116 (0,0)));obtain⟨b1,p0,p1,p2,z1⟩:=Jxx h1;obtain⟨w2,h2⟩:=Pi (w1.alloc (.cells #[.int .i64 0,.int .i64 0] 198 (0,0)));obtain⟨b2,q0,q1,z2⟩:=Qcw h2;have B2:=Pe (b1.trans (b2.mono b1.size));have r0:=(b2.cell (p:=⟨w.heap.size,0,none⟩) z1).trans p0;have r1:=(b2.cell (p:=⟨w.heap.size,1,none⟩) z1).trans p1;have hz:w.heap.size<=w1.heap.size:=b1.size;have hw2:w2.heap[w1.heap.size]?=some (.cells #[.int .i64 0,.int .i64 0] 198 (0,0)):=by rw[<-h2];exact heap_alloc_new _ _
 have v0:=frozen_of_row _ _ 0 _ _ hw2;have v1:=frozen_of_row _ _ 1 _ _ hw2;clear b1 b2 p0 p1 p2 hw2;go_enter func192,ntmps192;go_wp2_with fail;exact bodyPost_ret (v:=.agg #[.int .i64 k,.int .i64 d]) (by simp[results,Tryz.results192,go_sem,q0,q1]) rfl ⟨rfl,(B2.out.setCell (p:=⟨w1.heap.size,0,none⟩) hz _).setCell (p:=⟨w1.heap.size,1,none⟩) hz _⟩
theorem J3n(id:List UInt8)(k:Nat->Bool)(f t:Int)(s:ByteArray)(hs:str id=s)(b:Nat)(ls:List (List UInt8))(w:World)(hm:MapB w b ls):
  Pc 190 #[.agg #[.string s,.bool (k 0),.bool (k 1),.bool (k 2),.bool (k 3),.bool (k 4),.bool (k 5),.bool (k 6),.int .i64 f,.int .i64 t],.map (some b)] w (.int .i64 (badC ls (id,k,f,t))):=by
 have hid:s.data.toList=id:=Vv;obtain⟨w7,hw7⟩:=Pi (w.alloc (.cells #[.string s,.bool (k 0),.bool (k 1),.bool (k 2),.bool (k 3),.bool (k 4),.bool (k 5),.bool (k 6),.int .i64 f,.int .i64 t] 61 (0,0)));obtain⟨b7,p0,-,-,-,-,-,-,-,p8,p9,-⟩:=J7e hw7;have lk:=fun hq:s.size<=32=>(hm.below b7).look s id hid Ka
 have V:=Pe (valid_all_any s w7);rw[hid] at V;have B7:=Pe b7;clear b7 hm hid;cases hv:Jak id with
 | false =>
  have R:=Pe (Jiz (seen:=ls) (x:=(id,k,f,t)) hv);rw[hv] at V;generalize badC ls (id,k,f,t)=q at R |-;clear hv hs lk;go_enter func190,ntmps190;go_wp2_with fail;refine Pf V.out ?_;exact Vd
 | true =>
  rw[hv] at V;have lk:=lk (valid_small hs hv);clear hs;by_cases hd:id∈ls
  ·have R:=Pe (Jkf (x:=(id,k,f,t)) hv hd)
   rw[Pk hd] at lk;generalize badC ls (id,k,f,t)=q at R |-;clear hv hd;go_enter func190,ntmps190;go_wp2_with fail;refine Pf V.out ?_;exact Vd
  ·rw[Pj hd] at lk
   have RF:=Pe (fun hf=>Jn3 (x:=(id,k,f,t)) hv hd hf);have RN:=Pe (fun hf=>badC_none (x:=(id,k,f,t)) hv hd hf);generalize badC ls (id,k,f,t)=q at RF RN |-;simp only at RF RN;have VF:=Pe (fun W=>Jg8 f W);have VT:=Pe (fun W=>Jg8 t W);clear hv hd;by_cases h1:dayP f;case neg =>
    have R:=Pe (RF.out fun h=>h1 h.1);rw[Pj h1] at VF;clear RF RN h1 VT;go_enter func190,ntmps190;go_wp2_with fail;refine Pf V.out ?_;go_wp2_with fail;refine Pf (VF.out _) ?_;exact Vd
   rw[Pk h1] at VF;by_cases h2:dayP t;case neg =>
    have R:=Pe (RF.out fun h=>h2 h.2.1);rw[Pj h2] at VT;clear RF RN h1 h2;go_enter func190,ntmps190;go_wp2_with fail;refine Pf V.out ?_;go_wp2_with fail;refine Pf (VF.out _) ?_;go_wp2_with fail;refine Pf (VT.out _) ?_;exact Vd
   rw[Pk h2] at VT;by_cases h3:t<f;case pos =>
    have R:=Pe (RF.out fun h=>by have:=h.2.2;omega);clear RF RN h1 h2;go_enter func190,ntmps190;go_wp2_with fail;refine Pf V.out ?_;go_wp2_with fail;refine Pf (VF.out _) ?_;go_wp2_with fail;refine Pf (VT.out _) ?_;exact Vd
   have R:=Pe (RN.out ⟨h1,h2,Ka⟩);have d3:decide (t<f)=false:=Pj h3;clear RF RN h1 h2 h3;go_enter func190,ntmps190;go_wp2_with fail;refine Pf V.out ?_;go_wp2_with fail;refine Pf (VF.out _) ?_;go_wp2_with fail;refine Pf (VT.out _) ?_;exact Vd
theorem Jvc{x:Cl}(h:badC seen x=0):Jak x.1=true:=by
 cases hv:Jak x.1 with
 | true=>rfl
 | false=>rw[Jiz hv] at h;cases h
theorem kcheck_all(v:Value)(l:List Cl)(hl:l.length<=9223372036854775807)(w:World)(h:LstC w v l):Pc 101 #[v] w (.tuple #[.int .i64 ((chkC l).1),.int .i64 ((chkC l).2)]):=by
 have H:=Pe h;obtain⟨A,c,rfl,-,-,-⟩:=h;by_cases h64:64<l.length
 ·have R:=Pe (chkC_many h64)
  have g:(64:Int)<(l.length:Int):=Ka;generalize chkC l=q at R |-;clear h64;go_enter func101,ntmps101;exact Vc
 have g:decide ((64:Int)<(l.length:Int))=false:=Q8;have ST:=Pe (chkC_start (l:=l) Ka);have h64':l.length<=64:=Ka;have hmm:=@run_makeMap prog;generalize chkC l=q at ST |-;clear h64;go_enter func101,ntmps101;go_wp2_with fail;go_loopw [14] (fun i wr=>∃k:Nat,i=.int .i64 k/\k<=l.length/\Hid (q=fbF badC idC ((l.take k).map idC) k (l.drop k))/\Hid (MapB wr w.heap.size ((l.take k).map idC))/\Hid (Po w wr)) (fun i _=>l.length - (intOf i).toNat);case atStart=>exact⟨0,rfl,Nat.zero_le _,ST,Pe (MapB.made w),Pe ((Below.refl _ _).alloc Ph _)⟩
 case round =>
  clear g ST hmm;obtain⟨k,rfl,hk,hz,HM,HB⟩:=hrel;by_cases hlt:k<l.length
  ·obtain⟨⟨id,kw,f,t⟩,hx⟩:=Jah hlt
   obtain⟨nm,hnm⟩:=Pi (str id);obtain⟨b,o,rfl,hb,r0,mk,r8,r9⟩:=ten_at (H.out.below HB.out) hx hnm;have k0:wr.cell? ⟨b,o+k*10+1,none⟩=some (.bool (kw 0)):=mk 0 Ka;have k1:wr.cell? ⟨b,o+k*10+2,none⟩=some (.bool (kw 1)):=mk 1 Ka;have k2:wr.cell? ⟨b,o+k*10+3,none⟩=some (.bool (kw 2)):=mk 2 Ka;have k3:wr.cell? ⟨b,o+k*10+4,none⟩=some (.bool (kw 3)):=mk 3 Ka;have k4:wr.cell? ⟨b,o+k*10+5,none⟩=some (.bool (kw 4)):=mk 4 Ka;have k5:wr.cell? ⟨b,o+k*10+6,none⟩=some (.bool (kw 5)):=mk 5 Ka;have k6:wr.cell? ⟨b,o+k*10+7,none⟩=some (.bool (kw 6)):=mk 6 Ka;have gk:(k:Int)<(l.length:Int):=Ka;obtain⟨w7,hw7⟩:=Pi (wr.alloc (.cells #[.string nm,.bool (kw 0),.bool (kw 1),.bool (kw 2),.bool (kw 3),.bool (kw 4),.bool (kw 5),.bool (kw 6),.int .i64 f,.int .i64 t] 61 (0,0)));obtain⟨b7,p0,p1,p2,p3,p4,p5,p6,p7,p8,p9,s7⟩:=J7e hw7;have B7:Hid (Po w w7):=HB.out.trans (b7.mono HB.out.size);have M7:=Pe (HM.out.below b7);have C:=Pe (J3n id kw f t nm hnm w.heap.size ((l.take k).map idC) w7 M7.out);by_cases he:badC ((l.take k).map idC) (id,kw,f,t)=0
   ·have N:=Pe (Jcd hz.out hx he)
    have T:=Pe (Jeq (key:=idC) hx);have hil:Hid (((l.take k).map idC).length<=64):=by show _<=_;rw[Pr,List.length_take];omega
    have hid:Hid (nm.data.toList=id):=Vu;have hns:=valid_small hnm (Jvc he);rw[he] at C;clear hx hz HB HM b7 hnm hb he mk;go_wp2_with fail;refine C.out.mono ?_;rintro e w8 ⟨rfl,b8⟩;have q0:=(b8.cell (p:=⟨wr.heap.size,0,none⟩) s7).trans p0;have B8:Hid (Po w w8):=B7.out.trans (b8.mono B7.out.size);have M8:=Pe (M7.out.below b8);clear b8 p0 p1 p2 p3 p4 p5 p6 p7 p8 p9 B7 M7 C;go_wp2_with (at_mapUpdate;refine Jgd _ rfl _ _ _ rfl w.heap.size ((l.take k).map idC) rfl M8.out nm id hid.out Ka rfl rfl (by have:=hil.out;omega) ?_;intro w9 m9 g9);have M:Hid (MapB w9 w.heap.size ((l.take (k+1)).map idC)):=by
     show MapB _ _ _
     rw[T.out];exact m9
    have B:Hid (Po w w9):=B8.out.grown g9 B8.out.size (fun j hj=>Vh);clear m9 g9 M8 B8;go_wp2_with fail;go_roundw;case rel=>exact⟨k+1,Kj,Ka,N,M,B⟩
    case measure=>exact Q7
   ·have R:=Pe (Jal hz.out hx rfl he)
    have ne:=Jaf he;generalize badC ((l.take k).map idC) (id,kw,f,t)=y at C R ne;clear hx hz HB HM b7 hnm hb he mk;go_wp2_with fail;refine C.out.mono ?_;rintro e w8 ⟨rfl,b8⟩;have B8:Hid (Po w w8):=B7.out.trans (b8.mono B7.out.size);clear b8 B7 C p0 p1 p2 p3 p4 p5 p6 p7 p8 p9;exact V9
  ·have R:=Pe (Jce hz.out Ka)
   have d:decide (k<l.length)=false:=Kg;clear hz hlt HM;exact V7
theorem J3o(k d:Int)(f:Bool)(n:Int)(hp:Pl64 (k,d))(b:Nat)(ls:List (Int×Int))(w:World)(hm:MapP w b ls):
  Pc 191 #[.agg #[.int .i64 k,.int .i64 d,.bool f],.int .i64 n,.map (some b)] w (.int .i64 (badX n ls (k,d,f))):=by
 obtain⟨w7,hw7⟩:=Pi (w.alloc (.cells #[.int .i64 k,.int .i64 d,.bool f] 116 (0,0)));obtain⟨b7,p0,p1,p2,-⟩:=Jxx hw7;have hm:=Pe (hm.below b7);have P:=Pe (Jn7 k d f w7);have VD:=Pe (fun W=>Jg8 d W);have B7:=Pe b7;have RR:=Pe (fun h=>Jsl (n:=n) (seen:=ls) (e:=(k,d,f)) h);have RD:=Pe (fun h h2=>Jn4 (n:=n) (seen:=ls) (e:=(k,d,f)) h h2);have RT:=Pe (fun h h2 h3=>Jkg (n:=n) (seen:=ls) (e:=(k,d,f)) h h2 h3);have RN:=Pe (fun h h2 h3=>Jn5 (n:=n) (seen:=ls) (e:=(k,d,f)) h h2 h3);generalize badX n ls (k,d,f)=q at RR RD RT RN |-;simp only at RR RD RT RN;clear b7;by_cases h1:k<0
 ·have R:=Pe (RR.out (.inl h1))
  clear RR RD RT RN P VD hm;go_enter func191,ntmps191;exact Vd
 have d1:decide (k<0)=false:=Pj h1;by_cases h2:n<=k
 ·have R:=Pe (RR.out (.inr h2))
  clear RR RD RT RN P VD hm h1;go_enter func191,ntmps191;exact Vd
 have d2:decide (n<=k)=false:=Pj h2;have hn:¬(k<0\/n<=k):=Ka;by_cases h3:dayP d
 case neg =>
  have R:=Pe (RD.out hn h3);rw[Pj h3] at VD;clear RR RD RT RN P hm h1 h2 h3 hn;go_enter func191,ntmps191;go_wp2_with fail;refine Pf (VD.out _) ?_;exact Vd
 rw[Pk h3] at VD;by_cases h4:(k,d)∈ls
 ·have R:=Pe (RT.out hn h3 h4)
  have LD:=Pk h4;clear RR RD RT RN h1 h2 h3 hn h4;go_enter func191,ntmps191;go_wp2_with fail;refine Pf (VD.out _) ?_;go_wp2_with fail;refine P.out.mono ?_;exact Jb
 ·have R:=Pe (RN.out hn h3 h4)
  have LD:=Pj h4;clear RR RD RT RN h1 h2 h3 hn h4;go_enter func191,ntmps191;go_wp2_with fail;refine Pf (VD.out _) ?_;go_wp2_with fail;refine P.out.mono ?_;exact Jb
theorem kcx_any(v:Value)(l:List Ex)(n:Int)(hl:l.length<=9223372036854775807)(hs:∀(j:Nat) x,l[j]?=some x->Pl64 (plX x))(w:World)(h:LstX w v l):Pc 103 #[v,.int .i64 n] w (.tuple #[.int .i64 ((chkX n l).1),.int .i64 ((chkX n l).2)]):=by
 have H:=Pe h;have HS:=Pe hs;clear hs;obtain⟨A,c,rfl,-,-,-⟩:=h;by_cases h64:256<l.length
 ·have R:=Pe (Jn6 (n:=n) h64)
  have g:(256:Int)<(l.length:Int):=Ka;generalize chkX n l=q at R |-;clear h64;go_enter func103,ntmps103;exact Vc
 have g:decide ((256:Int)<(l.length:Int))=false:=Q8;have ST:=Pe (Jkh (n:=n) (l:=l) Ka);have h64':l.length<=256:=Ka;have hmm:=@run_makeMap prog;generalize chkX n l=q at ST |-;clear h64;go_enter func103,ntmps103;go_wp2_with fail;go_loopw [16] (fun i wr=>∃k:Nat,i=.int .i64 k/\k<=l.length/\Hid (q=fbF (badX n) plX ((l.take k).map plX) k (l.drop k))/\Hid (MapP wr w.heap.size ((l.take k).map plX))/\Hid (Po w wr)) (fun i _=>l.length - (intOf i).toNat);case atStart=>exact⟨0,rfl,Nat.zero_le _,ST,Pe (MapP.made w),Pe ((Below.refl _ _).alloc Ph _)⟩
 case round =>
  clear g ST hmm;obtain⟨k,rfl,hk,hz,HM,HB⟩:=hrel;by_cases hlt:k<l.length
  ·obtain⟨⟨ki,di,fi⟩,hx⟩:=Jah hlt
   have hpl:Hid (Pl64 (ki,di)):=HS.out k _ hx;obtain⟨b,o,rfl,hb,r0,r1,r2⟩:=three_at (H.out.below HB.out) hx;have gk:(k:Int)<(l.length:Int):=Ka;obtain⟨w7,hw7⟩:=Pi (wr.alloc (.cells #[.int .i64 ki,.int .i64 di,.bool fi] 116 (0,0)));obtain⟨b7,p0,p1,p2,s7⟩:=Jxx hw7;have B7:Hid (Po w w7):=HB.out.trans (b7.mono HB.out.size);have M7:=Pe (HM.out.below b7);have C:=Pe (J3o ki di fi n hpl.out w.heap.size ((l.take k).map plX) w7 M7.out);by_cases he:badX n ((l.take k).map plX) (ki,di,fi)=0
   ·have N:=Pe (Jcd hz.out hx he)
    have T:=Pe (Jeq (key:=plX) hx);have hil:Hid (((l.take k).map plX).length<=256):=by show _<=_;rw[Pr,List.length_take];omega
    rw[he] at C;clear hx hz HB HM b7 hb he;go_wp2_with fail;refine C.out.mono ?_;rintro e w8 ⟨rfl,b8⟩;have q0:=(b8.cell (p:=⟨wr.heap.size,0,none⟩) s7).trans p0;have q1:=(b8.cell (p:=⟨wr.heap.size,1,none⟩) s7).trans p1;have q2:=(b8.cell (p:=⟨wr.heap.size,2,none⟩) s7).trans p2;have B8:Hid (Po w w8):=B7.out.trans (b8.mono B7.out.size);have M8:=Pe (M7.out.below b8);clear b8 p0 p1 p2 B7 M7 C;go_wp2_with fail;refine(Jn7 ki di fi w8).mono ?_;rintro e w9 ⟨rfl,b9⟩;have B9:Hid (Po w w9):=B8.out.trans (b9.mono B8.out.size);have M9:=Pe (M8.out.below b9);clear b9 B8 M8 q0 q1 q2;go_wp2_with (at_mapUpdate;refine Qcy _ rfl _ _ _ rfl w.heap.size ((l.take k).map plX) rfl M9.out (ki,di) hpl.out rfl rfl (by have:=hil.out;omega) ?_;intro w10 m10 g10);have M:Hid (MapP w10 w.heap.size ((l.take (k+1)).map plX)):=by
     show MapP _ _ _
     rw[T.out];exact m10
    have B:Hid (Po w w10):=B9.out.grown g10 B9.out.size (fun j hj=>Vh);clear m10 g10 M9 B9;go_wp2_with fail;go_roundw;case rel=>exact⟨k+1,Kj,Ka,N,M,B⟩
    case measure=>exact Q7
   ·have R:=Pe (Jal hz.out hx rfl he)
    have ne:=Jaf he;generalize badX n ((l.take k).map plX) (ki,di,fi)=y at C R ne;clear hx hz HB HM b7 hb he;go_wp2_with fail;refine C.out.mono ?_;rintro e w8 ⟨rfl,b8⟩;have B8:Hid (Po w w8):=B7.out.trans (b8.mono B7.out.size);clear b8 B7 C p0 p1 p2;exact V9
  ·have R:=Pe (Jce hz.out Ka)
   have d:decide (k<l.length)=false:=Kg;clear hz hlt HM;exact V7
theorem rcheck_all(v:Value)(l:List Cl)(hl:l.length<=9223372036854775807)(w:World)(h:LstC w v l):Calls prog 70 #[v] w fun e w'=>e=.returned (.tuple #[.int .i64 ((chkC l).1),.int .i64 ((chkC l).2)])/\∃m,w'=w.drewN m:=by
 have H:=Pe h;obtain⟨A,c,rfl,-,-,-⟩:=h;by_cases h64:64<l.length
 ·have R:=Pe (chkC_many h64)
  have g:(64:Int)<(l.length:Int):=Ka;generalize chkC l=q at R |-;clear h64;go_enter func70,ntmps70;exact Jc
 have g:decide ((64:Int)<(l.length:Int))=false:=Q8;have ST:=Pe (chkC_start (l:=l) Ka);have h64':l.length<=64:=Ka;generalize chkC l=q at ST |-;clear h64;go_enter func70,ntmps70;go_wp2_with fail;go_loopw [4] (fun i wr=>∃k:Nat,i=.int .i64 k/\k<=l.length/\Hid (q=fbF badC idC ((l.take k).map idC) k (l.drop k))/\Hid (∃n,wr=w.drewN n)) (fun i _=>l.length - (intOf i).toNat);case atStart=>exact⟨0,rfl,Nat.zero_le _,ST,Pe ⟨0,rfl⟩⟩
 case round =>
  clear g ST;obtain⟨k,rfl,hk,hz,hn⟩:=hrel;by_cases hlt:k<l.length
  ·obtain⟨⟨id,kw,f,t⟩,hx⟩:=Jah hlt
   obtain⟨nm,hnm⟩:=Pi (str id);obtain⟨b,o,rfl,hb,r0,-,r8,r9⟩:=ten_at (H.out.below (Jar hn.out)) hx hnm;have gk:(k:Int)<(l.length:Int):=Ka;have hid:nm.data.toList=id:=Vs;have V:=Pe (fun W=>rvalid_all_any nm W);rw[hid] at V;cases hv:Jak id with
   | false =>
    have R:=Pe (Jal hz.out hx (Jiz (seen:=(l.take k).map idC) (x:=(id,kw,f,t)) hv) Kd);rw[hv] at V;clear hx hz hnm hb hid hv r8 r9;go_wp2_with fail;refine Pf (V.out _) ?_;exact V5
   | true =>
    rw[hv] at V;have HX:=Pe hx;have HNM:=Pe hnm;have HV:=Pe hv;clear hx hid hv hnm hb r8 r9;go_wp2_with fail;refine Pf (V.out _) ?_;clear V r0;go_wp2_with fail;go_loopw [5] (fun i wr=>∃j:Nat,i=.int .i64 j/\j<=k/\Hid (∀(t':Nat) (x:Cl),t'<j->l[t']?=some x->idC x≠id)/\Hid (∃n,wr=w.drewN n)) (fun i _=>k - (intOf i).toNat);case atStart=>exact⟨0,rfl,Nat.zero_le _,Pe (fun t' x ht=>absurd ht (Nat.not_lt_zero _)),hn⟩
    case round =>
     clear hn;obtain⟨j,rfl,hj,hall,hn⟩:=hrel;by_cases hjk:j<k
     ·obtain⟨⟨id2,kw2,f2,t2⟩,hy⟩:=Jah (show j<l.length by omega)
      obtain⟨nm2,hnm2⟩:=Pi (str id2);obtain⟨b1,o1,e1,hb1,r0,-,-,-⟩:=ten_at (H.out.below (Jar hn.out)) HX.out HNM.out;obtain⟨b2,o2,e2,hb2,s0,-,-,-⟩:=ten_at (H.out.below (Jar hn.out)) hy hnm2;cases e1;cases e2
      have gj:(j:Int)<(l.length:Int):=Ka;have gj2:(j:Int)<(k:Int):=Ka;by_cases hid:id2=id
      ·have R:=Pe (Jal hz.out HX.out (Jkf (seen:=(l.take k).map idC) (x:=(id,kw,f,t)) HV.out (Jdk hjk hy hid)) Kd)
       have eb:=Jcn (show nm2=nm by rw[<-hnm2,<-HNM.out,hid]);clear hz hy hnm2 hb1 hb2 hid hall HX HNM HV;go_wp2_with fail;go_quiet (fail);exact V6
      ·have N:Hid (∀(t':Nat) (x:Cl),t'<j+1->l[t']?=some x->idC x≠id):=by
        intro t' x ht hx;by_cases e:t'=j
        ·subst e
         exact Je
        ·exact hall.out t' x Ka hx
       have eb:=Jcx (str_ne hnm2 HNM.out hid);clear hy hnm2 hb1 hb2 hid hall;go_wp2_with fail;go_quiet (fail);go_wp2_with fail;go_roundw;case rel=>exact⟨j+1,Kj,Ka,N,Jb4 hn nq⟩
       case measure=>exact Q7
     ·have dj:decide (j<k)=false:=Ja
      have NM:id ∉ (l.take k).map idC:=Jcy fun t' x ht hx=>hall.out t' x Ka hx
      obtain⟨b1,o1,e1,hb1,r0,-,r8,r9⟩:=ten_at (H.out.below (Jar hn.out)) HX.out HNM.out;cases e1;have RF:=Pe (fun hf=>Jal hz.out HX.out (Jn3 (x:=(id,kw,f,t)) HV.out NM hf) Kd);have RN:=Pe (fun hf=>Jcd hz.out HX.out (badC_none (x:=(id,kw,f,t)) HV.out NM hf));simp only at RF RN;have VF:=Pe (fun W=>Jfx f W);have VT:=Pe (fun W=>Jfx t W);clear hz hall NM hjk HX HNM HV hb1 r0;by_cases h1:dayP f;case neg =>
       have R:=Pe (RF.out fun h=>h1 h.1);rw[Pj h1] at VF;clear RF RN h1 r9;go_wp2_with fail;go_quiet (first | (go_at_call 159;with_reducible exact Jdx VF.out _ _) | (go_at_call 159;with_reducible exact Jdx VT.out _ _));exact V6
      rw[Pk h1] at VF;by_cases h2:dayP t;case neg =>
       have R:=Pe (RF.out fun h=>h2 h.2.1);rw[Pj h2] at VT;clear RF RN h1 h2;go_wp2_with fail;go_quiet (first | (go_at_call 159;with_reducible exact Jdx VF.out _ _) | (go_at_call 159;with_reducible exact Jdx VT.out _ _));exact V6
      rw[Pk h2] at VT;by_cases h3:t<f;case pos =>
       have R:=Pe (RF.out fun h=>by have:=h.2.2;omega);have d3:=Pk h3;clear RF RN h1 h2 h3;go_wp2_with fail;go_quiet (first | (go_at_call 159;with_reducible exact Jdx VF.out _ _) | (go_at_call 159;with_reducible exact Jdx VT.out _ _));exact V6
      have N:=Pe (RN.out ⟨h1,h2,Ka⟩);have d3:decide (t<f)=false:=Pj h3;clear RF RN h1 h2 h3;go_wp2_with fail;go_quiet (first | (go_at_call 159;with_reducible exact Jdx VF.out _ _) | (go_at_call 159;with_reducible exact Jdx VT.out _ _));go_wp2_with fail;go_roundw;case rel=>exact⟨k+1,Kj,Ka,N,Jb4 hn nq⟩
      case measure=>exact Q7
  ·have R:=Pe (Jce hz.out Ka)
   have d:decide (k<l.length)=false:=Kg;clear hz hlt;exact V5
theorem rcx_any(v:Value)(l:List Ex)(n:Int)(hl:l.length<=9223372036854775807)(w:World)(h:LstX w v l):Calls prog 71 #[v,.int .i64 n] w fun e w'=>e=.returned (.tuple #[.int .i64 ((chkX n l).1),.int .i64 ((chkX n l).2)])/\∃m,w'=w.drewN m:=by
 have H:=Pe h;obtain⟨A,c,rfl,-,-,-⟩:=h;by_cases h64:256<l.length
 ·have R:=Pe (Jn6 (n:=n) h64)
  have g:(256:Int)<(l.length:Int):=Ka;generalize chkX n l=q at R |-;clear h64;go_enter func71,ntmps71;exact Jc
 have g:decide ((256:Int)<(l.length:Int))=false:=Q8;have ST:=Pe (Jkh (n:=n) (l:=l) Ka);have h64':l.length<=256:=Ka;generalize chkX n l=q at ST |-;clear h64;go_enter func71,ntmps71;go_wp2_with fail;go_loopw [6] (fun i wr=>∃k:Nat,i=.int .i64 k/\k<=l.length/\Hid (q=fbF (badX n) plX ((l.take k).map plX) k (l.drop k))/\Hid (∃n,wr=w.drewN n)) (fun i _=>l.length - (intOf i).toNat);case atStart=>exact⟨0,rfl,Nat.zero_le _,ST,Pe ⟨0,rfl⟩⟩
 case round =>
  clear g ST;obtain⟨k,rfl,hk,hz,hn⟩:=hrel;by_cases hlt:k<l.length
  ·obtain⟨⟨ki,di,fi⟩,hx⟩:=Jah hlt
   obtain⟨b,o,rfl,hb,r0,r1,-⟩:=three_at (H.out.below (Jar hn.out)) hx;have gk:(k:Int)<(l.length:Int):=Ka;have RR:=Pe (fun h=>Jal hz.out hx (Jsl (n:=n) (seen:=(l.take k).map plX) (e:=(ki,di,fi)) h) Kd);have RD:=Pe (fun h h2=>Jal hz.out hx (Jn4 (n:=n) (seen:=(l.take k).map plX) (e:=(ki,di,fi)) h h2) Kd);have RT:=Pe (fun h h2 h3=>Jal hz.out hx (Jkg (n:=n) (seen:=(l.take k).map plX) (e:=(ki,di,fi)) h h2 h3) Kd);have RN:=Pe (fun h h2 h3=>Jcd hz.out hx (Jn5 (n:=n) (seen:=(l.take k).map plX) (e:=(ki,di,fi)) h h2 h3));simp only at RR RD RT RN;have VD:=Pe (fun W=>Jfx di W);have HX:=Pe hx;clear hz hx hb;by_cases h1:ki<0
   ·have R:=Pe (RR.out (.inl h1))
    clear RR RD RT RN VD r1;exact V5
   have d1:decide (ki<0)=false:=Pj h1;by_cases h2:n<=ki
   ·have R:=Pe (RR.out (.inr h2))
    clear RR RD RT RN VD r1 h1;exact V5
   have d2:decide (n<=ki)=false:=Pj h2;have hnr:¬(ki<0\/n<=ki):=Ka;by_cases h3:dayP di
   case neg =>
    have R:=Pe (RD.out hnr h3);rw[Pj h3] at VD;clear RR RD RT RN h1 h2 h3 hnr;go_wp2_with fail;refine Pf (VD.out _) ?_;exact V5
   have RT:=Pe (RT.out hnr h3);have RN:=Pe (RN.out hnr h3);rw[Pk h3] at VD;clear RR RD h1 h2 h3 hnr;go_wp2_with fail;refine Pf (VD.out _) ?_;clear VD r0 r1;go_wp2_with fail;go_loopw [7] (fun i wr=>∃j:Nat,i=.int .i64 j/\j<=k/\Hid (∀(t':Nat) (x:Ex),t'<j->l[t']?=some x->plX x≠(ki,di))/\Hid (∃n,wr=w.drewN n)) (fun i _=>k - (intOf i).toNat);case atStart=>exact⟨0,rfl,Nat.zero_le _,Pe (fun t' x ht=>absurd ht (Nat.not_lt_zero _)),hn⟩
   case round =>
    clear hn;obtain⟨j,rfl,hj,hall,hn⟩:=hrel;by_cases hjk:j<k
    ·obtain⟨⟨kj,dj,fj⟩,hy⟩:=Jah (show j<l.length by omega)
     obtain⟨b1,o1,e1,hb1,r0,r1,-⟩:=three_at (H.out.below (Jar hn.out)) HX.out;obtain⟨b2,o2,e2,hb2,s0,s1,-⟩:=three_at (H.out.below (Jar hn.out)) hy;cases e1;cases e2
     have gj:(j:Int)<(l.length:Int):=Ka;have gj2:(j:Int)<(k:Int):=Ka;have NX:Hid (plX (kj,dj,fj)≠(ki,di)->∀(t':Nat) (x:Ex),t'<j+1->l[t']?=some x->plX x≠(ki,di)):=by
      intro hne t' x ht hx;by_cases e:t'=j
      ·subst e
       rw[hy] at hx;obtain rfl:=Pp hx;exact hne
      ·exact hall.out t' x Ka hx
     by_cases e1:kj=ki
     ·have q1:=Jag e1
      by_cases e2:dj=di
      ·have q2:=Jag e2
       have R:=Pe (RT.out (Jdk hjk hy (by rw[<-e1,<-e2];rfl)));clear hy hb1 hb2 e1 e2 hall HX NX RT RN;go_wp2_with fail;go_quiet (fail);exact V6
      ·have q2:=Jaa e2
       have N:=Pe (NX.out fun h=>e2 (congrArg Prod.snd h));clear hy hb1 hb2 e1 e2 hall NX;go_wp2_with fail;go_quiet (fail);go_wp2_with fail;go_roundw;case rel=>exact⟨j+1,Kj,Ka,N,Jb4 hn nq⟩
       case measure=>exact Q7
     ·have q1:=Jaa e1
      have N:=Pe (NX.out fun h=>e1 (congrArg Prod.fst h));clear hy hb1 hb2 e1 hall NX;go_wp2_with fail;go_quiet (fail);go_wp2_with fail;go_roundw;case rel=>exact⟨j+1,Kj,Ka,N,Jb4 hn nq⟩
      case measure=>exact Q7
    ·have dj:decide (j<k)=false:=Ja
     have N:=Pe (RN.out (Jcy fun t' x ht hx=>hall.out t' x Ka hx));clear hall hjk HX RT RN;go_wp2_with fail;go_roundw;case rel=>exact⟨k+1,Kj,Ka,N,hn⟩
     case measure=>exact Q7
  ·have R:=Pe (Jce hz.out Ka)
   have d:decide (k<l.length)=false:=Kg;clear hz hlt;exact V5
open Go.RowKit Go.ChangeShapes Go.WideShapes Go.Deep
theorem Jxz{enc:TypeId×Value->H}{n:Nat}{x:DataW H×List MemPlace}(h:DataW.trod enc prog W 0 (fun _=>true) true n 59 cs=some x):
  ∃k:Nat->Bool,cs=[.bool (k 0),.bool (k 1),.bool (k 2),.bool (k 3),.bool (k 4),.bool (k 5),.bool (k 6)]:=by
 obtain⟨xs,m,_,_,hl,hxs,hi⟩:=DataW.trod_array underlying59 h;rw[show prog.cellsOf 59=7 by kernel_rfl] at hl;rw[show prog.cellsOf 4=1 by kernel_rfl] at hi;have one:∀i,i<7->∃b,(cs.drop (i*1)).take 1=[.bool b]:=by
  intro i h7;have:=hi i h7;rw[List.getElem?_eq_getElem Ka] at this;obtain⟨b,e,_⟩:=DataW.trod_bool underlying4 this;exact⟨b,e⟩
 match cs,hl with
 | [c0,c1,c2,c3,c4,c5,c6],_ =>
  obtain⟨b0,e0⟩:=one 0 Ka;obtain⟨b1,e1⟩:=one 1 Ka;obtain⟨b2,e2⟩:=one 2 Ka;obtain⟨b3,e3⟩:=one 3 Ka;obtain⟨b4,e4⟩:=one 4 Ka;obtain⟨b5,e5⟩:=one 5 Ka;obtain⟨b6,e6⟩:=one 6 Ka;simp at e0 e1 e2 e3 e4 e5 e6;subst e0 e1 e2 e3 e4 e5 e6;exact⟨fun i=>[b0,b1,b2,b3,b4,b5,b6].getD i false,rfl⟩
theorem trod_cal{enc:TypeId×Value->H}{n:Nat}{x:DataW H×List MemPlace}(h:DataW.trod enc prog W 0 (fun _=>true) true n 61 cs=some x):
  ∃a:Cl,((-9223372036854775808<=a.2.2.1/\a.2.2.1<=9223372036854775807)/\-9223372036854775808<=a.2.2.2/\a.2.2.2<=9223372036854775807)/\cs=ce a:=by
 obtain⟨y0,y1,y2,y3,n,_,hl,h0,h1,h2,h3⟩:=Go.Joins.trod_struct4 underlying61 h;rw[show prog.cellsOf 61=10 by kernel_rfl] at hl;match cs,hl with
 | [c0,c1,c2,c3,c4,c5,c6,c7,c8,c9],_ =>
  simp only[show prog.cellsOf 9=1 by kernel_rfl,show prog.cellsOf 3=1 by kernel_rfl,show prog.cellsOf 59=7 by kernel_rfl] at h0 h1 h2 h3;obtain⟨s,e0,-⟩:=DataW.trod_string underlying9 h0;obtain⟨k,e1⟩:=Jxz h1;obtain⟨f,e2,_,w2⟩:=DataW.trod_int underlying3 h2;obtain⟨t,e3,_,w3⟩:=DataW.trod_int underlying3 h3;simp at e0 e1 e2 e3;obtain⟨rfl,rfl,rfl,rfl,rfl,rfl,rfl⟩:=e1;subst e0 e2 e3;refine⟨(s.data.toList,k,f,t),⟨⟨Jb0 w2,Jbz w2⟩,Jb0 w3,Jbz w3⟩,?_⟩;unfold ce;rw[Jaw]
theorem Jg9{enc:TypeId×Value->H}{P:Program}{base:Nat}{spare:Nat->Bool}{held:Bool}{t:TypeId}{f0 f1 f2:Field}{fuel:Nat}{x:DataW H×List MemPlace}(ht:P.underlying t=some (.struct #[f0,f1,f2]))(h:DataW.trod enc P w base spare held fuel t cs=some x):
  ∃y0 y1 y2 n,cs.length=P.cellsOf t/\DataW.trod enc P w base spare held n f0.type ((cs.drop f0.offset).take (P.cellsOf f0.type))=some y0 /\
   DataW.trod enc P w base spare held n f1.type ((cs.drop f1.offset).take (P.cellsOf f1.type))=some y1/\DataW.trod enc P w base spare held n f2.type ((cs.drop f2.offset).take (P.cellsOf f2.type))=some y2:=by
 obtain⟨xs,n,_,rfl,hl,hlen,hf⟩:=DataW.trod_struct ht h;match xs,hlen with
 | [y0,y1,y2],_=>exact⟨y0,y1,y2,n,hl,Vq,Vp,Vo⟩
theorem trod_exc{enc:TypeId×Value->H}{n:Nat}{x:DataW H×List MemPlace}(h:DataW.trod enc prog W 0 (fun _=>true) true n 116 cs=some x):
  ∃a:Ex,((-9223372036854775808<=a.1/\a.1<=9223372036854775807)/\-9223372036854775808<=a.2.1/\a.2.1<=9223372036854775807)/\cs=xe a:=by
 obtain⟨y0,y1,y2,n,hl,h0,h1,h2⟩:=Jg9 underlying116 h;rw[show prog.cellsOf 116=3 by kernel_rfl] at hl;match cs,hl with
 | [c0,c1,c2],_ =>
  simp only[show prog.cellsOf 3=1 by kernel_rfl,show prog.cellsOf 4=1 by kernel_rfl] at h0 h1 h2;obtain⟨k,e0,_,w0⟩:=DataW.trod_int underlying3 h0;obtain⟨d,e1,_,w1⟩:=DataW.trod_int underlying3 h1;obtain⟨f,e2,-⟩:=DataW.trod_bool underlying4 h2;simp at e0 e1 e2;subst e0 e1 e2;exact⟨(k,d,f),⟨⟨Jb0 w0,Jbz w0⟩,Jb0 w1,Jbz w1⟩,rfl⟩
end S14
section
open Go.RowKit
def Jx0:List Int:=Lib.deBruijn64tab.map fun n:Nat=>(n:Int)
def Good(w:World):Prop:=Lib.TabIs prog w "math/bits.deBruijn64tab" .u8 Jx0
theorem gTab:prog.globalNamed "math/bits.deBruijn64tab"=some 6:=Kl
variable {w:World}
theorem var_size{n:String}{g:Nat}{cs:Array Value}(hg:prog.globalNamed n=some g)(h:w.var? prog n=some cs):g<w.heap.size:=by
 unfold World.var? at h;simp only[hg,Option.bind_some] at h;by_cases hs:g<w.heap.size
 ·exact hs
 ·rw[Array.getElem?_eq_none Ka] at h
  cases h
theorem Good.below{w':World}(h:Good w)(b:Po w w'):Good w':=var?_below b gTab (var_size gTab h) h
theorem Good.tab(h:Good w)(r:Nat)(hr:r<64):w.cell? ⟨6,r,none⟩=some (.int .u8 (Jx0.getD r 0)):=Lib.TabIs.cell h gTab r hr
theorem J3p(x:Nat)(h0:x≠0)(hx:W64 x):IntKind.u64.wrap (-(x:Int))=((18446744073709551616 - x:Nat):Int):=by
 rw[IntKind.wrap_u64];unfold W64 at hx;omega
theorem J9b(X m a p k:Int)(idx:Nat)(hX:(X==0)=false)(h1:IntKind.u64.wrap (-X)=m)(h2:bits BinOp.and IntKind.u64 X m=a)(h3:IntKind.u64.wrap (a*285870213051353865)=p)(h4:p / 288230376151711744=idx)(hi:idx<64)
  (w:World) (hc:w.cell? ⟨6,idx,none⟩=some (.int .u8 k)) (k0:0<=k) (k1:k<64):Pb 346 #[.int .u64 X] w (.int .i64 k):=by
 go_enter func346,ntmps346;exact Kc
theorem Qcz(x:Nat)(hx:W64 x)(h0:x≠0)(w:World)(hg:Good w):Pb 346 #[.int .u64 (x:Int)] w (.int .i64 ((Lib.ctz 64 x:Nat):Int)):=by
 obtain⟨hlow,hk⟩:=Lib.lowest_bit 64 x h0 hx;obtain⟨hi,htab⟩:=Lib.deBruijn64_at _ hk;have hc:=hg.tab _ hi;have e:Jx0.getD (2 ^ Lib.ctz 64 x*285870213051353865 % 18446744073709551616 / 288230376151711744) 0=((Lib.ctz 64 x:Nat):Int):=by
  conv=>rhs;rw[<-htab]
  unfold Jx0;rw[List.getD_eq_getElem?_getD,List.getD_eq_getElem?_getD,List.getElem?_map];cases Lib.deBruijn64tab[2 ^ Lib.ctz 64 x*285870213051353865 % 18446744073709551616 / 288230376151711744]? <;> rfl
 rw[e] at hc;have hp:=Jia hk;refine J9b x ((18446744073709551616 - x:Nat):Int) ((2 ^ Lib.ctz 64 x:Nat):Int) ((2 ^ Lib.ctz 64 x*285870213051353865 % 18446744073709551616:Nat):Int) _ _ (Jaa Ka) (J3p x h0 hx) ?_ ?_ ?_ hi w hc (Int.natCast_nonneg _) Ka
 ·rw[bits_and_u64_nat x _ hx Ka]
  exact congrArg _ hlow
 ·rw[IntKind.wrap_u64,Int.natCast_emod,Int.natCast_mul]
  rfl
 ·rw[Int.natCast_ediv]
  rfl
def minB(s:Nat):Nat:=if s=0 then 0 else Lib.ctz 64 s
theorem J9c(x:Nat)(hx:W64 x)(w:World)(hg:Good w):Pb 306 #[.int .u64 (x:Int)] w (.tuple #[.int .i64 ((minB x:Nat):Int),.bool (decide (x≠0))]):=by
 by_cases h0:x=0
 ·subst h0
  go_enter func306,ntmps306;exact V8
 ·have M:=Pe (Qcz x hx h0 w hg)
  have R:=Pe (show minB x=Lib.ctz 64 x by unfold minB;rw[if_neg h0]);have g:((x:Int)==0)=false:=Jaa Ka;have D:=Pe (show decide (x≠0)=true by simp[h0]);rw[D.out,R.out];clear h0;generalize Lib.ctz 64 x=k at M |-;go_enter func306,ntmps306;go_wp2_with fail;refine Pf (M.out) ?_;exact V8
theorem J9d{s:Nat}(hs:W64 s)(h0:s≠0):minB s<64/\s.testBit (minB s)=true/\∀j,j<minB s->s.testBit j=false:=by
 unfold minB;rw[if_neg h0];obtain⟨m,hm,hk⟩:=Lib.ctzFrom_spec 64 s Ka hs;have e:Lib.ctz 64 s=Lib.ctzFrom 64 s:=by simp[Lib.ctz,h0]
 rw[e];generalize Lib.ctzFrom 64 s=k at hm hk;have hp:=Nat.two_pow_pos k;refine⟨hk,?_,fun j hj=>?_⟩
 ·rw[hm,Nat.testBit_two_pow_mul]
  simp[Nat.testBit_zero]
 ·rw[hm,Nat.testBit_two_pow_mul]
  exact Kb
theorem Jx1(s:ByteArray)(hs:s.size<=1099511627776)(w:World):Pb 156 #[.string s] w (.bool (Jak s.data.toList)):=by
 by_cases h0:s.size=0
 ·have e:=Jep s h0
  have he:(s.size:Int)<1:=Ka;rw[e];clear e h0;go_enter func156,ntmps156;exact Kc
 have he:decide ((s.size:Int)<1)=false:=Q8;by_cases h3:32<s.size
 ·have e:=Jbo s h3
  have g:(32:Int)<(s.size:Int):=Ka;clear h0 h3;rw[e];go_enter func156,ntmps156;exact Kc
 have g:decide ((32:Int)<(s.size:Int))=false:=Kb;rw[Jge s Ka Ka];obtain⟨r,hr⟩:=Pi (s.data.toList.all idB);rw[hr];have HR:=Pe hr;clear hr;clear h0 h3;go_enter func156,ntmps156;go_wp2_with fail;go_loop [3] (fun i=>∃k:Nat,i=.int .i64 k/\k<=s.size/\Hid ((s.data.toList.take k).all idB=true)) (fun i=>s.size - (intOf i).toNat);case atStart=>exact⟨0,rfl,Nat.zero_le _,Pe rfl⟩
 case round =>
  clear he g;obtain⟨k,rfl,hk,ht⟩:=hrel;by_cases hlt:k<s.size
  ·obtain⟨c,hc⟩:=Jcq s k hlt
   have k1:=fun W=>Jby s k c hc k rfl W
   have hid:=Jlq c;generalize hn:(c.toNat:Int)=n at k1 hid;clear hn;unfold lttI digI sgnI at hid;rcases Jix n with h | rfl | rfl | rfl | h | h | h | h | rfl | rfl | h | h
   ·have T:=Pe (Jbc (p:=idB) hc Kp)
    have g0:decide ((65:Int)<=n)=false:=Q8;have g1:n<=90:=Ka;have g2:decide ((97:Int)<=n)=false:=Q8;have g3:n<=122:=Ka;have g4:decide ((48:Int)<=n)=false:=Q8;have g5:n<=57:=Ka;exact Vb
   ·have T:=Pe (Ja3 idB _ k c hc ht.out Kw)
    clear hc hid ht;go_wp2_with fail;go_round;case rel=>exact⟨k+1,Kj,Ka,T⟩
    case measure=>exact Q7
   ·have T:=Pe (Ja3 idB _ k c hc ht.out Kw)
    clear hc hid ht;go_wp2_with fail;go_round;case rel=>exact⟨k+1,Kj,Ka,T⟩
    case measure=>exact Q7
   ·have T:=Pe (Jbc (p:=idB) hc Kw)
    exact Qe
   ·have T:=Pe (Ja3 idB _ k c hc ht.out Kp)
    have g0:decide ((65:Int)<=n)=false:=Q8;have g1:n<=90:=Ka;have g2:decide ((97:Int)<=n)=false:=Q8;have g3:n<=122:=Ka;have g4:(48:Int)<=n:=Ka;have g5:n<=57:=Ka;have q0:(n==45)=false:=Jaa Ka;have q1:(n==95)=false:=Jaa Ka;have q2:(n==46)=false:=Jaa Ka;clear hc hid ht h;go_wp2_with fail;go_round;case rel=>exact⟨k+1,Kj,Ka,T⟩
    case measure=>exact Q7
   ·have T:=Pe (Jbc (p:=idB) hc Kp)
    have g0:decide ((65:Int)<=n)=false:=Q8;have g1:n<=90:=Ka;have g2:decide ((97:Int)<=n)=false:=Q8;have g3:n<=122:=Ka;have g4:(48:Int)<=n:=Ka;have g5:decide (n<=57)=false:=Q8;exact Vb
   ·have T:=Pe (Ja3 idB _ k c hc ht.out Kp)
    have g0:(65:Int)<=n:=Ka;have g1:n<=90:=Ka;have g2:decide ((97:Int)<=n)=false:=Q8;have g3:n<=122:=Ka;have g4:(48:Int)<=n:=Ka;have g5:decide (n<=57)=false:=Q8;have q0:(n==45)=false:=Jaa Ka;have q1:(n==95)=false:=Jaa Ka;have q2:(n==46)=false:=Jaa Ka;clear hc hid ht h;go_wp2_with fail;go_round;case rel=>exact⟨k+1,Kj,Ka,T⟩
    case measure=>exact Q7
   ·have T:=Pe (Jbc (p:=idB) hc Kp)
    have g0:(65:Int)<=n:=Ka;have g1:decide (n<=90)=false:=Q8;have g2:decide ((97:Int)<=n)=false:=Q8;have g3:n<=122:=Ka;have g4:(48:Int)<=n:=Ka;have g5:decide (n<=57)=false:=Q8;exact Vb
   ·have T:=Pe (Ja3 idB _ k c hc ht.out Kw)
    clear hc hid ht;go_wp2_with fail;go_round;case rel=>exact⟨k+1,Kj,Ka,T⟩
    case measure=>exact Q7
   ·have T:=Pe (Jbc (p:=idB) hc Kw)
    exact Qe
   ·have T:=Pe (Ja3 idB _ k c hc ht.out Kp)
    have g0:(65:Int)<=n:=Ka;have g1:decide (n<=90)=false:=Q8;have g2:(97:Int)<=n:=Ka;have g3:n<=122:=Ka;have g4:(48:Int)<=n:=Ka;have g5:decide (n<=57)=false:=Q8;have q0:(n==45)=false:=Jaa Ka;have q1:(n==95)=false:=Jaa Ka;have q2:(n==46)=false:=Jaa Ka;clear hc hid ht h;go_wp2_with fail;go_round;case rel=>exact⟨k+1,Kj,Ka,T⟩
    case measure=>exact Q7
   ·have T:=Pe (Jbc (p:=idB) hc Kp)
    have g0:(65:Int)<=n:=Ka;have g1:decide (n<=90)=false:=Q8;have g2:(97:Int)<=n:=Ka;have g3:decide (n<=122)=false:=Q8;have g4:(48:Int)<=n:=Ka;have g5:decide (n<=57)=false:=Q8;exact Vb
  ·have R:Hid (r=true):=by
    show _=_
    exact Kv
   have d:decide (k<s.size)=false:=Kg;clear hlt ht;exact Kf
theorem Jgj(s:ByteArray)(w:World):Pb 156 #[.string s] w (.bool (Jak s.data.toList)):=by
 by_cases hs:s.size<=1099511627776
 ·exact Jx1 s hs w
 have e:=Jbo s Ka;have he:decide ((s.size:Int)<1)=false:=Q8;have g:(32:Int)<(s.size:Int):=Ka;clear hs;rw[e];go_enter func156,ntmps156;exact Kc
end
end Go.Proofs.YtpifdbphmnifdaaGreatDoor
