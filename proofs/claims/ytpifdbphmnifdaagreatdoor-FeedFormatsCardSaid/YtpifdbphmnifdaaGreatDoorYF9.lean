/-
  Facts. Condition: each theorem's own.
-/
import Derived.BigRegion
import Derived.Deep.DeepCutAuto
import Derived.Test.YtpifdbphmnifdaaGreatDoorYF7
import Derived.Test.YtpifdbphmnifdaaGreatDoorYF8
set_option maxRecDepth 100000
set_option maxHeartbeats 8000000
section
variable {p:Prop}
theorem Yj(h:p:=by unfold okPd at h;simp only at h;omega):p:=h
theorem Yk(h:p:=by dsimp only;omega):p:=h
theorem Yl(h:p:=by go_wp2_with fail;go_ret2;exact⟨Jfy R.out,B7.out⟩):p:=h
theorem Ym(h:p:=by go_wp2_with fail;go_ret2;exact⟨Jfy R.out,B9.out⟩):p:=h
theorem Yn(h:p:=by go_wp2_with fail;go_ret;exact⟨Jac E.out.symm,rfl⟩):p:=h
theorem Yo(h:p:=by rw[Bool.and_eq_true,decide_eq_true_iff,List.all_eq_true];exact⟨fun h=>⟨h.1,fun x hx=>of_decide_eq_true (h.2 x hx)⟩,fun h=>⟨h.1,fun x hx=>Pk (h.2 x hx)⟩⟩):p:=h
theorem Yp(h:p:=by unfold okFa at h;omega):p:=h
theorem Yq(h:p:=by go_wp2_with fail;go_ret2;exact⟨ret_chk Va Va,B7.out.trans (HB.out.mono B7.out.size)⟩):p:=h
theorem Yr(h:p:=by rintro e w1 ⟨rfl,b1⟩;have B1:=Pe b1;clear b1 C;go_wp2_with fail;go_ret2;exact⟨rfl,B1.out⟩):p:=h
theorem Ys(h:p:=by show wr.heap.size<_;omega):p:=h
end
open Go.Proofs.Tryz
namespace Go.Proofs.YtpifdbphmnifdaaGreatDoor
namespace S20
open Go
abbrev Ed:=Nat×Nat×Nat
def lab(f:List Int)(e:Ed):List Int:=if f.getD e.1 0<f.getD e.2.1 0 then f.set e.2.1 (f.getD e.1 0) else f.set e.1 (f.getD e.2.1 0)
abbrev Fp:=Int×Int×Int×Bool
def kyP(x:Fp):Int×Int×Bool:=(x.1,x.2.1,x.2.2.2)
def badP(st:Int)(seen:List (Int×Int×Bool))(x:Fp):Int :=
 if ¬(0<=x.1/\x.1<st)\/¬(0<=x.2.1/\x.2.1<st)\/x.1=x.2.1 then 9 else if ¬(1<=x.2.2.1/\x.2.2.1<=14400) then 2 else if kyP x∈seen then 6 else 0
section
variable {st:Int} {seen:List (Int×Int×Bool)} {x:Fp}
theorem Ji3(h:¬(0<=x.1/\x.1<st)):badP st seen x=9:=by unfold badP;rw[if_pos (.inl h)]
theorem Jq8(h:¬(0<=x.2.1/\x.2.1<st)):badP st seen x=9:=by unfold badP;rw[if_pos (.inr (.inl h))]
theorem Joy(h:x.1=x.2.1):badP st seen x=9:=by unfold badP;rw[if_pos (.inr (.inr h))]
theorem Jhg(h1:0<=x.1/\x.1<st)(h2:0<=x.2.1/\x.2.1<st)(h3:x.1≠x.2.1)(h:¬(1<=x.2.2.1/\x.2.2.1<=14400)):badP st seen x=2:=by
 unfold badP;rw[if_neg Ka,if_pos h]
theorem Jku(h1:0<=x.1/\x.1<st)(h2:0<=x.2.1/\x.2.1<st)(h3:x.1≠x.2.1)(h4:1<=x.2.2.1/\x.2.2.1<=14400)(h:kyP x∈seen):badP st seen x=6:=by
 unfold badP;rw[if_neg Ka,if_neg Ka,if_pos h]
theorem Jzv(h1:0<=x.1/\x.1<st)(h2:0<=x.2.1/\x.2.1<st)(h3:x.1≠x.2.1)(h4:1<=x.2.2.1/\x.2.2.1<=14400)(h:kyP x ∉ seen):badP st seen x=0:=by
 unfold badP;rw[if_neg Ka,if_neg Ka,if_neg h]
end
def vldP(st:Int)(l:List Fp):Int×Int:=fbF (badP st) kyP [] 0 l
def chkP(st:Int)(l:List Fp):Int×Int:=if 512<l.length then(0,5) else vldP st l
variable {w w7:World} {a s:Int} {f:Bool} {ls:List (Int×Int×Bool)}
theorem Joz{st:Int}{l:List Fp}(h:512<l.length):chkP st l=(0,5):=by unfold chkP;rw[if_pos h]
theorem Jtt{st:Int}{l:List Fp}(h:¬512<l.length):chkP st l=vldP st l:=by unfold chkP;rw[if_neg h]
open Go.RowKit
def fe(x:Fp):List Value:=[.int .i64 x.1,.int .i64 x.2.1,.int .i64 x.2.2.1,.bool x.2.2.2]
theorem fe_len(x:Fp):(fe x).length=4:=rfl
abbrev LstF:=@LstG Fp fe
theorem four_at{A:Option Addr}{n c:Nat}{l:List Fp}(h:LstF w (.slice A n c) l){i:Nat}{a b s:Int}{f:Bool}(hs:l[i]?=some (a,b,s,f)):
  ∃k o,A=some ⟨k,o,none⟩/\k<w.heap.size/\w.cell? ⟨k,o+i*4,none⟩=some (.int .i64 a)/\w.cell? ⟨k,o+i*4+1,none⟩=some (.int .i64 b)/\w.cell? ⟨k,o+i*4+2,none⟩=some (.int .i64 s)/\w.cell? ⟨k,o+i*4+3,none⟩=some (.bool f):=by
 obtain⟨A',c',hv,_,_,hx⟩:=h;cases hv;exact J7
abbrev boxF(a b s:Int)(f:Bool):Obj:=.cells #[.int .i64 a,.int .i64 b,.int .i64 s,.bool f] 63 (0,0)
abbrev fpV(a b s:Int)(f:Bool):Value:=.agg #[.int .i64 a,.int .i64 b,.int .i64 s,.bool f]
theorem Jtu{k:Nat}{b:Int}(h:w.heap[k]?=some (boxF a b s f)):
  w.cell? ⟨k,0,none⟩=some (.int .i64 a)/\w.cell? ⟨k,1,none⟩=some (.int .i64 b)/\w.cell? ⟨k,2,none⟩=some (.int .i64 s)/\w.cell? ⟨k,3,none⟩=some (.bool f) :=
 ⟨Jk,Jj,Jn,Jm⟩
theorem Jo0{b:Int}(h:w.alloc (boxF a b s f)=w7):
  Po w w7/\w7.cell? ⟨w.heap.size,0,none⟩=some (.int .i64 a)/\w7.cell? ⟨w.heap.size,1,none⟩=some (.int .i64 b)/\w7.cell? ⟨w.heap.size,2,none⟩=some (.int .i64 s)/\w7.cell? ⟨w.heap.size,3,none⟩=some (.bool f)/\w.heap.size<w7.heap.size/\w7.heap[w.heap.size]?=some (boxF a b s f):=by
 subst h;have c7:=heap_alloc_new w (boxF a b s f);obtain⟨h0,h1,h2,h3⟩:=Jtu c7;exact Zg
open Go.RowKit Go.Maps Go.WideMaps
abbrev Dm:=DataW Unit
def Ix64(x:Int):Prop:=-9223372036854775808<=x/\x<=9223372036854775807
theorem J4j(w:World):(zeroValue 4).run prog w=.ok (.bool false) w:=Kl
theorem pbool_inv{v:Value}{z:Dm×List MemPlace}(h:plainElem prog 4 v=some z):∃x,v=.bool x/\z=(.lit (.bool x),[]):=by
 unfold plainElem at h;rw[underlying4] at h;cases v <;> simp at h
 exact⟨_,rfl,h.symm⟩
theorem below_no{w':World}(hb:Po w w'):w.grownBy w' none:=⟨hb.os,hb.tape,hb.output,hb.size,fun k hk _=>hb.block k hk⟩
theorem Qae:laidOutB prog=true:=Kl
theorem J76:(63:TypeId)<prog.types.size:=of_decide_eq_true Kl
theorem Qaf:(match prog.underlying 63 with | some (.array _ _) | some (.struct _)=>true | _=>false)=true:=Kl
theorem Jtv:prog.cellsOf 63=4:=Kl
theorem Jzw:prog.cellsOf 3=1:=Kl
theorem Jzx:prog.cellsOf 4=1:=Kl
theorem Qdo:prog.keyType 63=true:=Kl
theorem Jzy:Keyed prog 63:=Keyed.of_law (deep_law_laid Qae (m:=4) Ka J76 Kl Qaf)
theorem J4k:∃m,prog.types.size=m+1:=by
 cases h:prog.types.size with
 | zero=>exact absurd (h ▸ J76:(_:Nat)<0) (Nat.not_lt_zero _)
 | succ m=>exact⟨m,rfl⟩
def Ky64(p:Int×Int×Bool):Prop:=Ix64 p.1/\Ix64 p.2.1
abbrev kyV(p:Int×Int×Bool):Value:=fpV p.1 p.2.1 0 p.2.2
def kf(p:Int×Int×Bool):List UInt8:=keyBytes [.int .i64 p.1,.int .i64 p.2.1,.int .i64 0,.bool p.2.2]
theorem Jtw(p:Int×Int×Bool)(h:Ky64 p):keyOf prog 63 (kyV p)=some (.string (kf p)):=by
 have w1:=WalkArith.wf_i64 h.1;have w2:=WalkArith.wf_i64 h.2;have w3:=WalkArith.wf_i64 (n:=0) ⟨Kd,Kd⟩;have hu:=underlying63;have hi:=underlying3;have hb:=underlying4;obtain⟨m,hm⟩:=J4k;unfold keyOf;simp only[hu];rw[if_pos (by simp[Qdo,Value.formed,hu,Jtv]),hm];unfold Program.keyLits;simp only[hu,Value.cells];rw[if_pos ⟨by rw[Jtv];rfl,Ke⟩];simp[Jzw,Jzx,Program.keyLits,hi,hb,w1,w2,w3,kf]
theorem J77{p q:Int×Int×Bool}(hp:Ky64 p)(hq:Ky64 q)(h:kf p=kf q):p=q:=by
 have h1:=Jtw p hp;have h2:=Jtw q hq;rw[<-h] at h2;have:=Jzy.inj h1 h2;simp at this;exact Prod.ext this.1 (Prod.ext this.2.1 this.2.2)
def MapP(w:World)(b:Nat)(ls:List (Int×Int×Bool)):Prop:=(∀p∈ls,Ky64 p)/\∃D:Dm,w.ownsMap prog 63 (plainElem prog 4) b ls.length D/\IsMap D/\(∀p,Ky64 p->has D (.string (kf p))=decide (p∈ls))/\∀p z,p∈ls->D.atKey (.string (kf p)) z=.lit (.bool true)
theorem MapP.made(w:World):MapP (w.alloc (.map #[] 0)) w.heap.size []:=⟨fun p hp=>absurd hp Ke,.map [],World.ownsMap_made _ _ _ _,isMap_empty,fun x _=>Qw,fun x z h=>Qv⟩
theorem MapP.below{w':World}{b:Nat}(h:MapP w b ls)(hb:Po w w'):MapP w' b ls:=by
 exact Yi
theorem MapP.look{b:Nat}(h:MapP w b ls)(p:Int×Int×Bool)(hp:Ky64 p):
  (Instr.lookup 258 (.map (some b)) (kyV p) false).run prog w=.ok (.bool (decide (p∈ls))) w:=by
 obtain⟨h0,D,h1,h2,h3,h4⟩:=h;obtain⟨v,ps,hrun,hv⟩:=h1.lookup Jzy underlying258 (J4j w) (plainElem_bool underlying4 false) (Jtw p hp);obtain⟨c,rfl,hc⟩:=pbool_inv hv;have hc:=congrArg Prod.fst hc;rw[hrun];have:c=decide (p∈ls):=by
  by_cases hm:p∈ls
  ·rw[h4 _ _ hm] at hc
   exact K9
  ·rw[atKey_of_not_has Jg] at hc
   exact K9
 rw[this]
theorem MapP.update{b:Nat}(h:MapP w b ls)(p:Int×Int×Bool)(hp:Ky64 p)(hl:ls.length<1099511627776):
  ∃w',(Instr.mapUpdate 258 (.map (some b)) (kyV p) (.bool true)).run prog w=.ok () w'/\MapP w' b (ls++[p])/\w.grownBy w' (some b):=by
 obtain⟨h0,D,h1,h2,h3,h4⟩:=h;obtain⟨w',hrun,g1,g2⟩:=h1.update Jzy underlying258 Kr (Jtw p hp) (plainElem_bool underlying4 true);refine⟨w',hrun,⟨fun q hq=>?_,_,Qu,h2.put _ _,fun q hq=>?_,fun q z hi=>?_⟩,g2⟩
 ·rcases List.mem_append.1 hq with hq | hq
  ·exact h0 q hq
  ·exact Jf
 ·by_cases hx:q=p
  ·subst hx
   exact Qh
  ·rw[has_put_other (fun e=>hx (J77 hq hp Jd)),h3 q hq]
   simp[hx]
 ·by_cases hx:q=p
  ·subst hx
   exact Qt
  ·have hq:q∈ls:=Qr
   rw[atKey_put_other (fun e=>hx (J77 (h0 q hq) hp Jd))];exact h4 q z hq
abbrev Ct:=Int×Int
variable {D:List Ed} {n b:Nat} {lab:List Ct} {Q:List (Int×Ct)} {X:List Nat} {T:List Ed} {N:Nat} {K:Int}
variable {L:List Ed} {n b:Nat} {lab:List Ct}
variable {par:List Int} {L:List Ed} {n:Nat}
open Go.RowKit Go.Sort
theorem Jvm(n:Int)(w:World):Pb 277 #[.int .i64 n] w (.bool (decide (1<=n/\n<=14400))):=by
 by_cases h1:1<=n
 ·by_cases h2:n<=14400
  ·have E:=Pe (Pk (p:=1<=n/\n<=14400) ⟨h1,h2⟩)
   go_enter func277,ntmps277;exact Yn
  ·have E:=Pe (Pj (p:=1<=n/\n<=14400) (fun h=>h2 h.2))
   have d2:decide (n<=14400)=false:=Pj h2;clear h2;go_enter func277,ntmps277;exact Yn
 ·have E:=Pe (Pj (p:=1<=n/\n<=14400) (fun h=>h1 h.1))
  have d1:decide (1<=n)=false:=Pj h1;clear h1;go_enter func277,ntmps277;exact Yn
theorem Jkv(a n:Int)(w:World):Pb 276 #[.int .i64 a,.int .i64 n] w (.bool (decide (0<=a/\a<n))):=by
 by_cases h1:0<=a
 ·by_cases h2:a<n
  ·have E:=Pe (Pk (p:=0<=a/\a<n) ⟨h1,h2⟩)
   go_enter func276,ntmps276;exact Yn
  ·have E:=Pe (Pj (p:=0<=a/\a<n) (fun h=>h2 h.2))
   have d2:decide (a<n)=false:=Pj h2;clear h2;go_enter func276,ntmps276;exact Yn
 ·have E:=Pe (Pj (p:=0<=a/\a<n) (fun h=>h1 h.1))
  have d1:decide (0<=a)=false:=Pj h1;clear h1;go_enter func276,ntmps276;exact Yn
theorem Jmb{b i:Nat}{v:Value}{cs:Array Value}{T:TypeId}{fr:Nat×Nat}(h:w.heap[b]?=some (.cells cs T fr))(hc:cs.setIfInBounds i v=cs):w.setCell ⟨b,i,none⟩ v=w:=by
 unfold World.setCell;cases w with
 | mk hp tape drawn os out =>
  simp only at h |-;congr 1;refine Array.ext_getElem? fun j=>?_
  rw[Array.getElem?_modify];split
  ·next e =>
   subst e;rw[h];simp[hc]
  ·rfl
theorem box_last{b:Int}(h:w.alloc (boxF a b s f)=w7):w7.frozen? ⟨w.heap.size,3,none⟩=false/\w7.setCell ⟨w.heap.size,3,none⟩ (.bool f)=w7:=by
 subst h;exact⟨frozen_of_row _ _ 3 _ _ (heap_alloc_new _ _),Jmb (heap_alloc_new _ _) rfl⟩
def L64(l:List Fp):Prop:=∀x∈l,Ky64 (kyP x)
theorem Jfy{q:Int×Int}{b:Int}(h:q=(a,b)):Ending.returned (.tuple #[.int .i64 a,.int .i64 b])=Ending.returned (.tuple #[.int .i64 q.1,.int .i64 q.2]):=Qc
theorem Qdp{w8 w9:World}{b:Int}(h7:w.alloc (boxF a b s f)=w7)(h8:w7.alloc (boxF a b s f)=w8)(h9:w8.setCell ⟨w7.heap.size,2,none⟩ (.int .i64 0)=w9):
  (w8.cell? ⟨w7.heap.size,2,none⟩=some (.int .i64 s)/\w8.frozen? ⟨w7.heap.size,2,none⟩=false)/\w9.heap[w.heap.size]?=some (boxF a b s f)/\w9.heap[w7.heap.size]?=some (boxF a b 0 f)/\RowKit.Below w.heap.size w w9/\w.heap.size<w7.heap.size:=by
 obtain⟨b7,-,-,-,-,s7,c7⟩:=Jo0 h7;obtain⟨b8,-,-,q2,-,s8,c8⟩:=Jo0 h8;refine⟨⟨q2,frozen_of_row _ _ 2 _ _ c8⟩,?_,?_,?_,s7⟩
 ·rw[<-h9,RowKit.Below.heap_setCell _ _ _ _ (by show w.heap.size≠w7.heap.size;omega)]
  exact(b8.block _ s7).trans c7
 ·rw[<-h9]
  unfold World.setCell;rw[Array.getElem?_modify,if_pos rfl,c8];rfl
 ·rw[<-h9]
  exact(b7.trans (b8.mono b7.size)).setCell b7.size _
theorem Qag(v:Value)(l:List Fp)(hl:l.length<=1000000)(st:Int)(h64:L64 l)(w:World)(h:LstF w v l):Pc 203 #[v,.int .i64 st] w (.tuple #[.int .i64 ((vldP st l).1),.int .i64 ((vldP st l).2)]):=by
 have hh:=h;obtain⟨A,c,rfl,-⟩:=hh;have H:=Pe h;have H64:=Pe h64;obtain⟨q,hq⟩:=Pi (vldP st l);rw[hq];obtain⟨w1,hw1⟩:=Pi (w.alloc (.map #[] 0));have b1:RowKit.Below w.heap.size w w1:=Xh;have M1:Hid (MapP w1 w.heap.size ((l.take 0).map kyP)):=by rw[<-hw1];exact MapP.made w
 have B1:=Pe b1;have Q1:Hid (q=fbF (badP st) kyP ((l.take 0).map kyP) 0 (l.drop 0)):=Pe hq.symm;have hmm:=@run_makeMap prog;clear h h64 hq b1;go_enter func203,ntmps203;go_wp2_with fail;clear hmm;go_loopw [13] (fun i wr=>∃k:Nat,i=.int .i64 (k:Int)/\k<=l.length/\Hid (q=fbF (badP st) kyP ((l.take k).map kyP) k (l.drop k))/\Hid (MapP wr w.heap.size ((l.take k).map kyP))/\Hid (RowKit.Below w.heap.size w wr)) (fun i _=>l.length - (intOf i).toNat);case atStart=>exact⟨0,rfl,Nat.zero_le _,Q1,M1,B1⟩
 case round =>
  clear Q1 M1 B1 hw1;obtain⟨k,rfl,hk,HQ,HM,HB⟩:=hrel;by_cases hlt:k<l.length
  ·obtain⟨⟨a,b,s,f⟩,hx⟩:=Jah hlt
   obtain⟨b',o,rfl,hb,m0,m1,m2,m3⟩:=four_at (H.out.below HB.out) hx;have gk:(k:Int)<(l.length:Int):=Ka;obtain⟨w7,hw7⟩:=Pi (wr.alloc (boxF a b s f));obtain⟨w8,hw8⟩:=Pi (w7.alloc (boxF a b s f));obtain⟨w9,hw9⟩:=Pi (w8.setCell ⟨w7.heap.size,2,none⟩ (.int .i64 0));obtain⟨⟨r2,r2f⟩,c9,d9,b9,z7⟩:=Qdp hw7 hw8 hw9;have hb7:=Jo0 hw7;have hb8:=Jo0 hw8;obtain⟨y0,y1⟩:=box_last hw7;obtain⟨x0,x1⟩:=box_last hw8;have e0:=(hb8.1.cell (p:=⟨wr.heap.size,0,none⟩) Ys).trans hb7.2.1;have e1:=(hb8.1.cell (p:=⟨wr.heap.size,1,none⟩) Ys).trans hb7.2.2.1;have e2:=(hb8.1.cell (p:=⟨wr.heap.size,2,none⟩) Ys).trans hb7.2.2.2.1;have e3:=(hb8.1.cell (p:=⟨wr.heap.size,3,none⟩) Ys).trans hb7.2.2.2.2.1;obtain⟨-,t0,t1,t2,t3,-,-⟩:=hb7;obtain⟨p0,p1,p2,p3⟩:=Jtu c9;obtain⟨q0,q1,q2,q3⟩:=Jtu d9;have B9:=Pe (HB.out.trans (b9.mono HB.out.size));have M9:=Pe (HM.out.below b9);have hky:Ky64 (a,b,f):=H64.out _ (List.mem_iff_getElem?.2 ⟨k,hx⟩);have IA:=Pe (fun W=>Jkv a st W);have IB:=Pe (fun W=>Jkv b st W);have IS:=Pe (fun W=>Jvm s W);clear hb hb8 b9 c9 d9 HB HM z7;by_cases h1:¬(0<=a/\a<st)
   ·rw[Pj h1] at IA
    have R:=Pe (Jal HQ.out hx (Ji3 (x:=(a,b,s,f)) h1) Kd);clear HQ hx;go_wp2_with fail;refine Pf (IA.out _) ?_;exact Ym
   have h1:=Pu h1;rw[Pk h1] at IA;by_cases h2:¬(0<=b/\b<st)
   ·rw[Pj h2] at IB
    have R:=Pe (Jal HQ.out hx (Jq8 (x:=(a,b,s,f)) h2) Kd);clear HQ hx;go_wp2_with fail;refine Pf (IA.out _) ?_;go_wp2_with fail;refine Pf (IB.out _) ?_;exact Ym
   have h2:=Pu h2;rw[Pk h2] at IB;by_cases h3:a=b
   ·have g:=Jag h3
    have R:=Pe (Jal HQ.out hx (Joy (x:=(a,b,s,f)) h3) Kd);clear HQ hx h3;go_wp2_with fail;refine Pf (IA.out _) ?_;go_wp2_with fail;refine Pf (IB.out _) ?_;exact Ym
   have g:=Jaa h3;by_cases h4:¬(1<=s/\s<=14400)
   ·rw[Pj h4] at IS
    have R:=Pe (Jal HQ.out hx (Jhg (x:=(a,b,s,f)) h1 h2 h3 h4) Kd);clear HQ hx;go_wp2_with fail;refine Pf (IA.out _) ?_;go_wp2_with fail;refine Pf (IB.out _) ?_;go_wp2_with fail;refine Pf (IS.out _) ?_;exact Ym
   have h4:=Pu h4;rw[Pk h4] at IS;have lk:=M9.out.look (a,b,f) hky;by_cases h5:kyP (a,b,s,f)∈(l.take k).map kyP
   ·have lk':=lk.trans (by rw[Pk (show(a,b,f)∈(l.take k).map kyP from h5)])
    clear lk;have R:=Pe (Jal HQ.out hx (Jku (x:=(a,b,s,f)) h1 h2 h3 h4 h5) Kd);clear HQ hx;go_wp2_with fail;refine Pf (IA.out _) ?_;go_wp2_with fail;refine Pf (IB.out _) ?_;go_wp2_with fail;refine Pf (IS.out _) ?_;exact Ym
   have lk':=lk.trans (by rw[Pj (show(a,b,f) ∉ (l.take k).map kyP from h5)]);clear lk;obtain⟨w10,hrun,m10,g10⟩:=M9.out.update (a,b,f) hky Jp;have N:=Pe (Jcd HQ.out hx (Jzv (x:=(a,b,s,f)) h1 h2 h3 h4 h5));have M10:Hid (MapP w10 w.heap.size ((l.take (k+1)).map kyP)):=by
    show MapP _ _ _
    rw[Jbx l k _ hx,List.map_append];exact m10
   have B10:Hid (RowKit.Below w.heap.size w w10):=B9.out.grown g10 B9.out.size (fun j hj=>Vh);clear HQ hx h5 m10 g10;go_wp2_with fail;refine Pf (IA.out _) ?_;go_wp2_with fail;refine Pf (IB.out _) ?_;go_wp2_with fail;refine Pf (IS.out _) ?_;go_wp2_with fail;go_roundw;case rel=>exact⟨k+1,Kj,Ka,N,M10,B10⟩
   case measure=>exact Q7
  ·have R:Hid (q=(0,0)):=Jce HQ.out Ka
   have d:decide (k<l.length)=false:=Kg;clear hlt HQ HM;go_wp2_with fail;go_ret2;exact⟨Jfy R.out,HB.out⟩
theorem kchk_any(v:Value)(l:List Fp)(hl:l.length<=1000000)(st:Int)(h64:L64 l)(w:World)(h:LstF w v l):Pc 113 #[v,.int .i64 st] w (.tuple #[.int .i64 ((chkP st l).1),.int .i64 ((chkP st l).2)]):=by
 have C:=Pe (Qag v l hl st h64 w h);obtain⟨A,c,rfl,-⟩:=h;by_cases hm:512<l.length
 ·have g:(512:Int)<(l.length:Int):=Ka
  rw[Joz hm];clear hm C;go_enter func113,ntmps113;go_wp2_with fail;go_ret2;exact⟨rfl,RowKit.Below.refl _ _⟩
 ·have g:decide ((512:Int)<(l.length:Int))=false:=Pj Ka
  rw[Jtt hm];clear hm;go_enter func113,ntmps113;go_wp2_with fail;refine C.out.mono ?_;exact Yr
theorem Jtx{a b:Bool}{c:Bool}(h:decide (a=b)=c):(a==b)=c:=by cases a <;> cases b <;> cases c <;> simp_all
theorem J4l(v:Value)(l:List Fp)(hl:l.length<=1000000)(st:Int)(w:World)(h:LstF w v l):Pc 166 #[v,.int .i64 st] w (.tuple #[.int .i64 ((vldP st l).1),.int .i64 ((vldP st l).2)]):=by
 have hh:=h;obtain⟨A,c,rfl,-⟩:=hh;have H:=Pe h;obtain⟨q,hq⟩:=Pi (vldP st l);rw[hq];have Q1:Hid (q=fbF (badP st) kyP ((l.take 0).map kyP) 0 (l.drop 0)):=Pe hq.symm;clear h hq;go_enter func166,ntmps166;go_wp2_with fail;go_loopw [6] (fun i wr=>∃k:Nat,i=.int .i64 (k:Int)/\k<=l.length/\Hid (q=fbF (badP st) kyP ((l.take k).map kyP) k (l.drop k))/\Hid (RowKit.Below w.heap.size w wr)) (fun i _=>l.length - (intOf i).toNat);case atStart=>exact⟨0,rfl,Nat.zero_le _,Q1,Pe (RowKit.Below.refl _ _)⟩
 case round =>
  clear Q1;obtain⟨k,rfl,hk,HQ,HB⟩:=hrel;by_cases hlt:k<l.length
  ·obtain⟨⟨a,b,s,f⟩,hx⟩:=Jah hlt
   obtain⟨b',o,rfl,hb,m0,m1,m2,m3⟩:=four_at (H.out.below HB.out) hx;have gk:(k:Int)<(l.length:Int):=Ka;obtain⟨w7,hw7⟩:=Pi (wr.alloc (boxF a b s f));obtain⟨b7,p0,p1,p2,p3,s7,c7⟩:=Jo0 hw7;obtain⟨y0,y1⟩:=box_last hw7;have B7:=Pe (HB.out.trans (b7.mono HB.out.size));have S7:=Pe s7;have C7:=Pe c7;have HK:=Pe hk;clear hb b7 c7 s7 HB;by_cases h1:a<0
   ·have R:=Pe (Jal HQ.out hx (Ji3 (x:=(a,b,s,f)) Yk) Kd)
    clear HQ hx;exact Yl
   have d1:decide (a<0)=false:=Pj h1;by_cases h2:st<=a
   ·have R:=Pe (Jal HQ.out hx (Ji3 (x:=(a,b,s,f)) Yk) Kd)
    clear HQ hx h1;exact Yl
   have d2:decide (st<=a)=false:=Pj h2;by_cases h3:b<0
   ·have R:=Pe (Jal HQ.out hx (Jq8 (x:=(a,b,s,f)) Yk) Kd)
    clear HQ hx h1 h2;exact Yl
   have d3:decide (b<0)=false:=Pj h3;by_cases h4:st<=b
   ·have R:=Pe (Jal HQ.out hx (Jq8 (x:=(a,b,s,f)) Yk) Kd)
    clear HQ hx h1 h2 h3;exact Yl
   have d4:decide (st<=b)=false:=Pj h4;by_cases h5:a=b
   ·have g:=Jag h5
    have R:=Pe (Jal HQ.out hx (Joy (x:=(a,b,s,f)) h5) Kd);clear HQ hx h1 h2 h3 h4 h5;exact Yl
   have g5:=Jaa h5;by_cases h6:s<1
   ·have R:=Pe (Jal HQ.out hx (Jhg (x:=(a,b,s,f)) Yk Yk h5 Yk) Kd)
    clear HQ hx h1 h2 h3 h4;exact Yl
   have d6:decide (s<1)=false:=Pj h6;by_cases h7:14400<s
   ·have R:=Pe (Jal HQ.out hx (Jhg (x:=(a,b,s,f)) Yk Yk h5 Yk) Kd)
    clear HQ hx h1 h2 h3 h4 h6;exact Yl
   have d7:decide (14400<s)=false:=Pj h7;have OK:Hid (kyP (a,b,s,f) ∉ (l.take k).map kyP->badP st ((l.take k).map kyP) (a,b,s,f)=0):=fun hn=>Jzv (x:=(a,b,s,f)) Yk Yk h5 Yk hn
   have TW:Hid (kyP (a,b,s,f)∈(l.take k).map kyP->badP st ((l.take k).map kyP) (a,b,s,f)=6):=fun hn=>Jku (x:=(a,b,s,f)) Yk Yk h5 Yk hn
   have HX:=Pe hx;clear hx h1 h2 h3 h4 h5 h6 h7;go_wp2_with fail;clear d1 d2 d3 d4 g5 d6 d7 hw7 y0 y1;go_loopw [8] (fun j wx=>∃i:Nat,j=.int .i64 (i:Int)/\i<=k/\Hid (∀(e:Nat) y,e<i->l[e]?=some y->kyP y≠(a,b,f))/\Hid (RowKit.Below w7.heap.size w7 wx)) (fun j _=>k - (intOf j).toNat);case atStart=>exact⟨0,rfl,Nat.zero_le _,Pe (fun e y he=>absurd he (Nat.not_lt_zero _)),Pe (RowKit.Below.refl _ _)⟩
   case round =>
    clear m0 m1 m2 m3 p0 p1 p2 p3;obtain⟨i,rfl,hi,HN,HB⟩:=hrel;have BB:=Pe (B7.out.trans (HB.out.mono B7.out.size));by_cases hik:i<k
    ·obtain⟨⟨a',bb,s',f'⟩,hy⟩:=Jah (show i<l.length by omega)
     obtain⟨b2,o2,hA,hb2,n0,n1,n2,n3⟩:=four_at (H.out.below BB.out) hy;obtain⟨rfl,rfl⟩:b'=b2/\o=o2:=by cases hA;exact⟨rfl,rfl⟩
     obtain⟨p0,p1,p2,p3⟩:=Jtu ((HB.out.block _ S7.out).trans C7.out);have gi:(i:Int)<(k:Int):=Ka;have gi':(i:Int)<(l.length:Int):=Ka;clear hA hb2;by_cases e1:a'=a
     ·have t1:=Jag e1
      by_cases e2:bb=b
      ·have t2:=Jag e2
       by_cases e3:f'=f
       ·have t3:=Jtx (Pk e3)
        have R:=Pe (Jal HQ.out HX.out (TW.out (List.mem_map.2 ⟨(a',bb,s',f'),List.mem_iff_getElem?.2 ⟨i,by rw[List.getElem?_take,if_pos hik];exact hy⟩,by show(a',bb,f')=(a,b,f);rw[e1,e2,e3]⟩)) Kd);clear HN hy e1 e2 e3;go_wp2_with fail;go_quiet (fail);have BQ:=Pe (Jab BB.out nq);generalize wr.drewN nq=w2 at BQ |-;clear HB BB n0 n1 n2 n3 p0 p1 p2 p3;go_wp2_with fail;go_ret2;exact⟨Jfy R.out,BQ.out⟩
       ·have t3:=Jtx (Pj e3)
        have N:Hid (∀(e:Nat) y,e<i+1->l[e]?=some y->kyP y≠(a,b,f)):=by
         intro e y he hey;by_cases h0:e=i
         ·subst h0
          rw[hy] at hey;cases hey;exact fun e=>e3 (congrArg (fun z:Int×Int×Bool=>z.2.2) e)
         ·exact HN.out e y Ka hey
        clear HN hy e1 e2 e3;go_wp2_with fail;go_quiet (fail);have BQ:=Pe (Jab HB.out nq);generalize wr.drewN nq=w2 at BQ |-;clear HB BB n0 n1 n2 n3 p0 p1 p2 p3;go_wp2_with fail;go_roundw;case rel=>exact⟨i+1,Kj,Ka,N,BQ⟩
        case measure=>exact Q7
      ·have t2:=Jaa e2
       have N:Hid (∀(e:Nat) y,e<i+1->l[e]?=some y->kyP y≠(a,b,f)):=by
        intro e y he hey;by_cases h0:e=i
        ·subst h0
         rw[hy] at hey;cases hey;exact fun e=>e2 (congrArg (fun z:Int×Int×Bool=>z.2.1) e)
        ·exact HN.out e y Ka hey
       clear HN hy e1 e2;go_wp2_with fail;go_quiet (fail);have BQ:=Pe (Jab HB.out nq);generalize wr.drewN nq=w2 at BQ |-;clear HB BB n0 n1 n2 n3 p0 p1 p2 p3;go_wp2_with fail;go_roundw;case rel=>exact⟨i+1,Kj,Ka,N,BQ⟩
       case measure=>exact Q7
     ·have t1:=Jaa e1
      have N:Hid (∀(e:Nat) y,e<i+1->l[e]?=some y->kyP y≠(a,b,f)):=by
       intro e y he hey;by_cases h0:e=i
       ·subst h0
        rw[hy] at hey;cases hey;exact fun e=>e1 (congrArg (fun z:Int×Int×Bool=>z.1) e)
       ·exact HN.out e y Ka hey
      clear HN hy e1;go_wp2_with fail;go_quiet (fail);have BQ:=Pe (Jab HB.out nq);generalize wr.drewN nq=w2 at BQ |-;clear HB BB n0 n1 n2 n3 p0 p1 p2 p3;go_wp2_with fail;go_roundw;case rel=>exact⟨i+1,Kj,Ka,N,BQ⟩
      case measure=>exact Q7
    ·have d:decide (i<k)=false:=by rw[decide_eq_false_iff_not];exact hik
     have N:=Pe (Jcd HQ.out HX.out (OK.out (fun hm=>by
      obtain⟨y,hy,e⟩:=List.mem_map.1 hm;obtain⟨j,hj⟩:=List.mem_iff_getElem?.1 hy;rw[List.getElem?_take] at hj;split at hj
      ·exact HN.out j y Ka hj e
      ·cases hj)))
     clear hik HN HB;go_wp2_with fail;go_roundw;case rel=>exact⟨k+1,Kj,Ka,N,BB⟩
     case measure=>exact Q7
  ·have R:Hid (q=(0,0)):=Jce HQ.out Ka
   have d:decide (k<l.length)=false:=Kg;clear hlt HQ;go_wp2_with fail;go_ret2;exact⟨Jfy R.out,HB.out⟩
theorem rchk_any(v:Value)(l:List Fp)(hl:l.length<=1000000)(st:Int)(w:World)(h:LstF w v l):Pc 76 #[v,.int .i64 st] w (.tuple #[.int .i64 ((chkP st l).1),.int .i64 ((chkP st l).2)]):=by
 have C:=Pe (J4l v l hl st w h);obtain⟨A,c,rfl,-⟩:=h;by_cases hm:512<l.length
 ·have g:(512:Int)<(l.length:Int):=Ka
  rw[Joz hm];clear hm C;go_enter func76,ntmps76;go_wp2_with fail;go_ret2;exact⟨rfl,RowKit.Below.refl _ _⟩
 ·have g:decide ((512:Int)<(l.length:Int))=false:=Pj Ka
  rw[Jtt hm];clear hm;go_enter func76,ntmps76;go_wp2_with fail;refine C.out.mono ?_;exact Yr
open Go.RowKit Go.ChangeShapes Go.WideShapes Go.Deep
theorem trod_foot{H:Type}{enc:TypeId×Value->H}{W:World}{n:Nat}{cs:List Value}{x:DataW H×List MemPlace}(h:DataW.trod enc prog W 0 (fun _=>true) true n 63 cs=some x):∃a:Fp,Ky64 (kyP a)/\cs=fe a:=by
 obtain⟨y0,y1,y2,y3,n,_,hl,h0,h1,h2,h3⟩:=Go.Joins.trod_struct4 underlying63 h;rw[show prog.cellsOf 63=4 by kernel_rfl] at hl;match cs,hl with
 | [c0,c1,c2,c3],_ =>
  simp only[show prog.cellsOf 3=1 by kernel_rfl,show prog.cellsOf 4=1 by kernel_rfl] at h0 h1 h2 h3;obtain⟨t,e0,_,w0⟩:=DataW.trod_int underlying3 h0;obtain⟨a,e1,_,w1⟩:=DataW.trod_int underlying3 h1;obtain⟨b,e2,-⟩:=DataW.trod_int underlying3 h2;obtain⟨v,e3,-⟩:=DataW.trod_bool underlying4 h3;simp at e0 e1 e2 e3;subst e0 e1 e2 e3;exact⟨(t,a,b,v),⟨⟨Jb0 w0,Jbz w0⟩,Jb0 w1,Jbz w1⟩,rfl⟩
end S20
namespace S21
open Go
abbrev Pd:=List UInt8×Int×Int×Int×Int×Int
abbrev Ri:=Int×Int×Int×Int
def okPd(p:Pd):Prop:=(0<=p.2.1/\p.2.1<=1000000)/\(1<=p.2.2.1/\p.2.2.1<=8)/\(1<=p.2.2.2.1/\p.2.2.2.1<=16)/\(0<=p.2.2.2.2.1/\p.2.2.2.2.1<=86400)/\1<=p.2.2.2.2.2/\p.2.2.2.2.2<=255
instance (p:Pd):Decidable (okPd p):=by unfold okPd;infer_instance
def badPd(seen:List (List UInt8))(x:Pd):Int:=if Jak x.1=false then 12 else if x.1∈seen then 6 else if okPd x then 0 else 2
variable {d c wi:Int} {w:World} {s:ByteArray}
theorem Jhh{seen:List (List UInt8)}{x:Pd}(h:Jak x.1=false):badPd seen x=12:=by unfold badPd;rw[if_pos h]
theorem Ji4{seen:List (List UInt8)}{x:Pd}(h:Jak x.1=true)(h2:x.1∈seen):badPd seen x=6:=by unfold badPd;rw[if_neg Kx,if_pos h2]
theorem Jc8{seen:List (List UInt8)}{x:Pd}(h:Jak x.1=true)(h2:x.1 ∉ seen)(h3:¬okPd x):badPd seen x=2:=by unfold badPd;rw[if_neg Kx,if_neg h2,if_neg h3]
theorem Jkw{seen:List (List UInt8)}{x:Pd}(h:Jak x.1=true)(h2:x.1 ∉ seen)(h3:okPd x):badPd seen x=0:=by unfold badPd;rw[if_neg Kx,if_neg h2,if_pos h3]
def idPd(x:Pd):List UInt8:=x.1
def okFa(d wi c:Int):Prop:=(0<=d/\d<=1000000)/\(0<=wi/\wi<=86400)/\0<=c/\c<=1000000
instance (d wi c:Int):Decidable (okFa d wi c):=by unfold okFa;infer_instance
def chkPd(d wi c:Int)(l:List Pd):Int×Int:=if ¬okFa d wi c then(-1,2) else if 16<l.length then(0,5) else fbF badPd idPd [] 0 l
theorem Jc9{l:List Pd}(h:¬okFa d wi c):chkPd d wi c l=(-1,2):=by unfold chkPd;rw[if_pos h]
theorem Jkx{l:List Pd}(h:okFa d wi c)(h2:16<l.length):chkPd d wi c l=(0,5):=by unfold chkPd;rw[if_neg (fun k=>k h),if_pos h2]
theorem Ji5{l:List Pd}(h:okFa d wi c)(h2:l.length<=16):chkPd d wi c l=fbF badPd idPd ((l.take 0).map idPd) 0 (l.drop 0):=by unfold chkPd;rw[if_neg (fun k=>k h),if_neg Ka];rfl
open Go.RowKit
def Ix64(x:Int):Prop:=-9223372036854775808<=x/\x<=9223372036854775807
def pdE(x:Pd):List Value:=[.string (str x.1),.int .i64 x.2.1,.int .i64 x.2.2.1,.int .i64 x.2.2.2.1,.int .i64 x.2.2.2.2.1,.int .i64 x.2.2.2.2.2]
theorem pdE_len(x:Pd):(pdE x).length=6:=rfl
abbrev LstPd:=@LstG Pd pdE
theorem six_at{A:Option Addr}{n c:Nat}{l:List Pd}(h:LstPd w (.slice A n c) l){i:Nat}{id:List UInt8}{p r z t m:Int}(hs:l[i]?=some (id,p,r,z,t,m)){s:ByteArray}(hst:str id=s):
  ∃b o,A=some ⟨b,o,none⟩/\b<w.heap.size/\w.cell? ⟨b,o+i*6,none⟩=some (.string s)/\w.cell? ⟨b,o+i*6+1,none⟩=some (.int .i64 p)/\w.cell? ⟨b,o+i*6+2,none⟩=some (.int .i64 r)/\w.cell? ⟨b,o+i*6+3,none⟩=some (.int .i64 z)/\w.cell? ⟨b,o+i*6+4,none⟩=some (.int .i64 t)/\w.cell? ⟨b,o+i*6+5,none⟩=some (.int .i64 m):=by
 subst hst;obtain⟨A',c',hv,_,_,hx⟩:=h;cases hv;have hi:=(Pm hs).1;obtain⟨b,o,rfl,hb,hcell⟩:=hx Ka;exact⟨b,o,rfl,hb,hcell (i*6) _ (by rw[<-Nat.add_zero (i*6),Jbq pdE_len hs 0 Ka];rfl),(hcell (i*6+1) _ (by rw[Jbq pdE_len hs 1 Ka];rfl):_),(hcell (i*6+2) _ (by rw[Jbq pdE_len hs 2 Ka];rfl):_),(hcell (i*6+3) _ (by rw[Jbq pdE_len hs 3 Ka];rfl):_),(hcell (i*6+4) _ (by rw[Jbq pdE_len hs 4 Ka];rfl):_),(hcell (i*6+5) _ (by rw[Jbq pdE_len hs 5 Ka];rfl):_)⟩
abbrev pdV(s:ByteArray)(p r z t m:Int):Value:=.agg #[.string s,.int .i64 p,.int .i64 r,.int .i64 z,.int .i64 t,.int .i64 m]
abbrev boxP(s:ByteArray)(p r z t m:Int):Obj:=.cells #[.string s,.int .i64 p,.int .i64 r,.int .i64 z,.int .i64 t,.int .i64 m] 65 (0,0)
theorem Qdq{k:Nat}{p r z t m:Int}(h:w.heap[k]?=some (boxP s p r z t m)):
  w.cell? ⟨k,0,none⟩=some (.string s)/\w.cell? ⟨k,1,none⟩=some (.int .i64 p)/\w.cell? ⟨k,2,none⟩=some (.int .i64 r)/\w.cell? ⟨k,3,none⟩=some (.int .i64 z)/\w.cell? ⟨k,4,none⟩=some (.int .i64 t)/\w.cell? ⟨k,5,none⟩=some (.int .i64 m) :=
 ⟨Jk,Jj,Jn,Jm,Jq,by rw[cell_of_row _ _ 5 _ _ _ h];rfl⟩
theorem Jzz{w7:World}{p r z t m:Int}(h:w.alloc (boxP s p r z t m)=w7):
  Po w w7/\w7.cell? ⟨w.heap.size,0,none⟩=some (.string s)/\w7.cell? ⟨w.heap.size,1,none⟩=some (.int .i64 p)/\w7.cell? ⟨w.heap.size,2,none⟩=some (.int .i64 r)/\w7.cell? ⟨w.heap.size,3,none⟩=some (.int .i64 z)/\w7.cell? ⟨w.heap.size,4,none⟩=some (.int .i64 t)/\w7.cell? ⟨w.heap.size,5,none⟩=some (.int .i64 m)/\w.heap.size<w7.heap.size:=by
 subst h;have c7:=heap_alloc_new w (boxP s p r z t m);obtain⟨h0,h1,h2,h3,h4,h5⟩:=Qdq c7;exact⟨(Below.refl _ _).alloc Ph _,h0,h1,h2,h3,h4,h5,Ke⟩
abbrev faV(v:Value)(d wi c:Int):Value:=.agg #[v,.int .i64 d,.int .i64 wi,.int .i64 c]
abbrev Jvn(v:Value)(d wi c:Int):Obj:=.cells #[v,.int .i64 d,.int .i64 wi,.int .i64 c] 34 (0,0)
theorem Qdr{k:Nat}{v:Value}(h:w.heap[k]?=some (Jvn v d wi c)):
  w.cell? ⟨k,0,none⟩=some v/\w.cell? ⟨k,1,none⟩=some (.int .i64 d)/\w.cell? ⟨k,2,none⟩=some (.int .i64 wi)/\w.cell? ⟨k,3,none⟩=some (.int .i64 c) :=
 ⟨Jk,Jj,Jn,Jm⟩
theorem J78{w7:World}{v:Value}(h:w.alloc (Jvn v d wi c)=w7):
  Po w w7/\w7.cell? ⟨w.heap.size,0,none⟩=some v/\w7.cell? ⟨w.heap.size,1,none⟩=some (.int .i64 d)/\w7.cell? ⟨w.heap.size,2,none⟩=some (.int .i64 wi)/\w7.cell? ⟨w.heap.size,3,none⟩=some (.int .i64 c)/\w.heap.size<w7.heap.size/\w7.heap[w.heap.size]?=some (Jvn v d wi c):=by
 subst h;have c7:=heap_alloc_new w (Jvn v d wi c);obtain⟨h0,h1,h2,h3⟩:=Qdr c7;exact Zg
theorem ret_chk{a b:Int}(h:a=b)(k:c=d):Ending.returned (.tuple #[.int .i64 a,.int .i64 c])=.returned (.tuple #[.int .i64 b,.int .i64 d]):=Qm
theorem str_ne{id:List UInt8}{x:List UInt8}{t:ByteArray}(hs:str x=s)(ht:str id=t)(h:x≠id):s≠t:=by
 intro e;apply h;have e2:str x=str id:=Vy;exact Vi
theorem valid_all_any(s:ByteArray)(w:World):Pb 193 #[.string s] w (.bool (Jak s.data.toList)):=by
 by_cases hs:s.size<=1099511627776
 ·exact Jgf s hs w
 have e:=Jbo s Ka;have he:s.toList.isEmpty=false:=Vn;have g:(32:Int)<(s.size:Int):=Ka;clear hs;exact K6
theorem valid_small{id:List UInt8}(hs:str id=s)(hv:Jak id=true):s.size<=32:=by
 exact Vw
theorem Jq9{seen:List (List UInt8)}{x:Pd}(h:badPd seen x=0):Jak x.1=true:=by
 cases hv:Jak x.1 with
 | true=>rfl
 | false=>rw[Jhh hv] at h;cases h
theorem Ji6(n a b:Int)(w:World):Pb 278 #[.int .i64 n,.int .i64 a,.int .i64 b] w (.bool (decide (a<=n/\n<=b))):=by
 by_cases h1:a<=n
 ·have R:=Pe (show decide (n<=b)=decide (a<=n/\n<=b) from decide_eq_decide.2 Ka)
  go_enter func278,ntmps278;exact Xy
 ·have g:decide (a<=n)=false:=Pj h1
  have R:=Pe (show false=decide (a<=n/\n<=b) from (Pj Ka).symm);clear h1;go_enter func278,ntmps278;exact Xy
theorem Jhi(n:Int)(w:World):Pb 204 #[.int .i64 n] w (.bool (decide (0<=n/\n<=1000000))):=by
 have M:=Pe (fun W=>Ji6 n 0 1000000 W);generalize decide (0<=n/\n<=1000000)=r at M |-;go_enter func204,ntmps204;go_wp2_with fail;refine Pf (M.out _) ?_;exact Kc
theorem Jty(n:Int)(w:World):Pb 205 #[.int .i64 n] w (.bool (decide (0<=n/\n<=86400))):=by
 have M:=Pe (fun W=>Ji6 n 0 86400 W);generalize decide (0<=n/\n<=86400)=r at M |-;go_enter func205,ntmps205;go_wp2_with fail;refine Pf (M.out _) ?_;exact Kc
theorem Jz0(id:List UInt8)(p r z t m:Int)(s:ByteArray)(hs:str id=s)(b:Nat)(ls:List (List UInt8))(w:World)(hm:MapB w b ls):
  Pc 206 #[pdV s p r z t m,.map (some b)] w (.int .i64 (badPd ls (id,p,r,z,t,m))):=by
 have hid:s.data.toList=id:=Vv;obtain⟨w7,hw7⟩:=Pi (w.alloc (boxP s p r z t m));obtain⟨b7,p0,p1,p2,p3,p4,p5,-⟩:=Jzz hw7;have V:=Pe (fun W=>valid_all_any s W);rw[hid] at V;have B7:=Pe b7;cases hv:Jak id with
 | false =>
  have R:=Pe (Jhh (seen:=ls) (x:=(id,p,r,z,t,m)) hv);rw[hv] at V;clear hv b7 hm hid hs;go_enter func206,ntmps206;go_wp2_with fail;refine Pf (V.out _) ?_;exact Vd
 | true =>
  have lk:=(hm.below b7).look s id hid (by have:=valid_small hs hv;omega);rw[hv] at V;clear b7 hm hid hs;by_cases hd:id∈ls
  ·have R:=Pe (Ji4 (x:=(id,p,r,z,t,m)) hv hd)
   rw[Pk hd] at lk;clear hv hd;go_enter func206,ntmps206;go_wp2_with fail;refine Pf (V.out _) ?_;exact Vd
  ·rw[Pj hd] at lk
   have C0:=Pe (fun W=>Jhi p W);have C1:=Pe (fun W=>Jty t W);have C2:=Pe (fun W=>Ji6 r 1 8 W);have C3:=Pe (fun W=>Ji6 z 1 16 W);have C4:=Pe (fun W=>Ji6 m 1 255 W);by_cases q0:¬(0<=p/\p<=1000000)
   ·have R:=Pe (Jc8 (x:=(id,p,r,z,t,m)) hv hd (fun h=>q0 Yj))
    rw[Pj q0] at C0;clear hv hd q0;go_enter func206,ntmps206;go_wp2_with fail;refine Pf (V.out _) ?_;go_wp2_with fail;refine Pf (C0.out _) ?_;exact Vd
   have h0:=Pu q0;clear q0;by_cases q1:¬(0<=t/\t<=86400)
   ·have R:=Pe (Jc8 (x:=(id,p,r,z,t,m)) hv hd (fun h=>q1 Yj))
    rw[Pk h0] at C0;rw[Pj q1] at C1;clear hv hd q1 h0;go_enter func206,ntmps206;go_wp2_with fail;refine Pf (V.out _) ?_;go_wp2_with fail;refine Pf (C0.out _) ?_;go_wp2_with fail;refine Pf (C1.out _) ?_;exact Vd
   have h1:=Pu q1;clear q1;by_cases q2:¬(1<=r/\r<=8)
   ·have R:=Pe (Jc8 (x:=(id,p,r,z,t,m)) hv hd (fun h=>q2 Yj))
    rw[Pk h0] at C0;rw[Pk h1] at C1;rw[Pj q2] at C2;clear hv hd q2 h0 h1;go_enter func206,ntmps206;go_wp2_with fail;refine Pf (V.out _) ?_;go_wp2_with fail;refine Pf (C0.out _) ?_;go_wp2_with fail;refine Pf (C1.out _) ?_;go_wp2_with fail;refine Pf (C2.out _) ?_;exact Vd
   have h2:=Pu q2;clear q2;by_cases q3:¬(1<=z/\z<=16)
   ·have R:=Pe (Jc8 (x:=(id,p,r,z,t,m)) hv hd (fun h=>q3 Yj))
    rw[Pk h0] at C0;rw[Pk h1] at C1;rw[Pk h2] at C2;rw[Pj q3] at C3;clear hv hd q3 h0 h1 h2;go_enter func206,ntmps206;go_wp2_with fail;refine Pf (V.out _) ?_;go_wp2_with fail;refine Pf (C0.out _) ?_;go_wp2_with fail;refine Pf (C1.out _) ?_;go_wp2_with fail;refine Pf (C2.out _) ?_;go_wp2_with fail;refine Pf (C3.out _) ?_;exact Vd
   have h3:=Pu q3;clear q3;by_cases q4:¬(1<=m/\m<=255)
   ·have R:=Pe (Jc8 (x:=(id,p,r,z,t,m)) hv hd (fun h=>q4 Yj))
    rw[Pk h0] at C0;rw[Pk h1] at C1;rw[Pk h2] at C2;rw[Pk h3] at C3;rw[Pj q4] at C4;clear hv hd q4 h0 h1 h2 h3;go_enter func206,ntmps206;go_wp2_with fail;refine Pf (V.out _) ?_;go_wp2_with fail;refine Pf (C0.out _) ?_;go_wp2_with fail;refine Pf (C1.out _) ?_;go_wp2_with fail;refine Pf (C2.out _) ?_;go_wp2_with fail;refine Pf (C3.out _) ?_;go_wp2_with fail;refine Pf (C4.out _) ?_;exact Vd
   have h4:=Pu q4;clear q4;have R:=Pe (Jkw (x:=(id,p,r,z,t,m)) hv hd (show okPd (id,p,r,z,t,m) from ⟨h0,h2,h3,h1,h4⟩));rw[Pk h0] at C0;rw[Pk h1] at C1;rw[Pk h2] at C2;rw[Pk h3] at C3;rw[Pk h4] at C4;clear hv hd h0 h1 h2 h3 h4;go_enter func206,ntmps206;go_wp2_with fail;refine Pf (V.out _) ?_;go_wp2_with fail;refine Pf (C0.out _) ?_;go_wp2_with fail;refine Pf (C1.out _) ?_;go_wp2_with fail;refine Pf (C2.out _) ?_;go_wp2_with fail;refine Pf (C3.out _) ?_;go_wp2_with fail;refine Pf (C4.out _) ?_;exact Vd
theorem kcheck_any(v:Value)(l:List Pd)(d wi c:Int)(hl:l.length<=9223372036854775807)(w:World)(h:LstPd w v l):Pc 115 #[faV v d wi c] w (.tuple #[.int .i64 ((chkPd d wi c l).1),.int .i64 ((chkPd d wi c l).2)]):=by
 obtain⟨w7,hw7⟩:=Pi (w.alloc (Jvn v d wi c));obtain⟨b7,p0,p1,p2,p3,s7,-⟩:=J78 hw7;have H:=Pe (h.below b7);have B7:=Pe b7;obtain⟨A,n,rfl,-,-,-⟩:=h;clear b7;have C0:=Pe (fun W=>Jhi d W);have C1:=Pe (fun W=>Jty wi W);have C2:=Pe (fun W=>Jhi c W);by_cases q0:¬(0<=d/\d<=1000000)
 ·have R:=Pe (Jc9 (l:=l) (fun h=>q0 Yp:¬okFa d wi c))
  rw[Pj q0] at C0;generalize chkPd d wi c l=q at R |-;clear q0  s7;go_enter func115,ntmps115;go_wp2_with fail;refine Pf (C0.out _) ?_;exact J6
 have h0:=Pu q0;clear q0;by_cases q1:¬(0<=wi/\wi<=86400)
 ·have R:=Pe (Jc9 (l:=l) (fun h=>q1 Yp:¬okFa d wi c))
  rw[Pk h0] at C0;rw[Pj q1] at C1;generalize chkPd d wi c l=q at R |-;clear q1 h0 s7;go_enter func115,ntmps115;go_wp2_with fail;refine Pf (C0.out _) ?_;go_wp2_with fail;refine Pf (C1.out _) ?_;exact J6
 have h1:=Pu q1;clear q1;by_cases q2:¬(0<=c/\c<=1000000)
 ·have R:=Pe (Jc9 (l:=l) (fun h=>q2 Yp:¬okFa d wi c))
  rw[Pk h0] at C0;rw[Pk h1] at C1;rw[Pj q2] at C2;generalize chkPd d wi c l=q at R |-;clear q2 h0 h1 s7;go_enter func115,ntmps115;go_wp2_with fail;refine Pf (C0.out _) ?_;go_wp2_with fail;refine Pf (C1.out _) ?_;go_wp2_with fail;refine Pf (C2.out _) ?_;exact J6
 have h2:=Pu q2;clear q2;have ok:okFa d wi c:=⟨h0,h1,h2⟩;rw[Pk h0] at C0;rw[Pk h1] at C1;rw[Pk h2] at C2;clear h0 h1 h2;by_cases h16:16<l.length
 ·have R:=Pe (Jkx ok h16)
  have g:(16:Int)<(l.length:Int):=Ka;generalize chkPd d wi c l=q at R |-;clear h16 ok s7;go_enter func115,ntmps115;go_wp2_with fail;refine Pf (C0.out _) ?_;go_wp2_with fail;refine Pf (C1.out _) ?_;go_wp2_with fail;refine Pf (C2.out _) ?_;exact J6
 have g:decide ((16:Int)<(l.length:Int))=false:=Q8;have ST:=Pe (Ji5 ok (show l.length<=16 by omega));have h16':l.length<=16:=Ka;have hmm:=@run_makeMap prog;obtain⟨q,hq⟩:=Pi (chkPd d wi c l);rw[hq];have HQ:=Pe hq;have S7:=Pe s7;have pm:=(((Below.refl w7.heap.size w7).alloc Ph (.map #[] 0)).cell (p:=⟨w.heap.size,0,none⟩) s7).trans p0;clear h16 hq ok s7;go_enter func115,ntmps115;go_wp2_with fail;refine Pf (C0.out _) ?_;go_wp2_with fail;refine Pf (C1.out _) ?_;go_wp2_with fail;refine Pf (C2.out _) ?_;go_wp2_with fail;go_loopw [32] (fun i wr=>∃k:Nat,i=.int .i64 k/\k<=l.length/\Hid (chkPd d wi c l=fbF badPd idPd ((l.take k).map idPd) k (l.drop k))/\Hid (MapB wr w7.heap.size ((l.take k).map idPd))/\Hid (Po w7 wr)) (fun i _=>l.length - (intOf i).toNat);case atStart=>exact⟨0,rfl,Nat.zero_le _,ST,Pe (MapB.made w7),Pe ((Below.refl _ _).alloc Ph _)⟩
 case round =>
  clear g ST hmm;obtain⟨k,rfl,hk,hz,HM,HB⟩:=hrel;clear C0 C1 C2;by_cases hlt:k<l.length
  ·obtain⟨⟨id,p,r,z,t,m⟩,hx⟩:=Jah hlt
   obtain⟨nm,hnm⟩:=Pi (str id);obtain⟨b,o,rfl,hb,r0,r1,r2,r3,r4,r5⟩:=six_at (H.out.below HB.out) hx hnm;have gk:(k:Int)<(l.length:Int):=Ka;obtain⟨w8,hw8⟩:=Pi (wr.alloc (boxP nm p r z t m));obtain⟨b8,x0,x1,x2,x3,x4,x5,s8⟩:=Jzz hw8;have B8:Hid (Po w7 w8):=HB.out.trans (b8.mono HB.out.size);have M8:=Pe (HM.out.below b8);have C:=Pe (Jz0 id p r z t m nm hnm w7.heap.size ((l.take k).map idPd) w8 M8.out);by_cases he:badPd ((l.take k).map idPd) (id,p,r,z,t,m)=0
   ·have N:=Pe (Jcd hz.out hx he)
    have T:=Pe (Jeq (key:=idPd) hx);have hil:((l.take k).map idPd).length<=16:=Jp;have hid:Hid (nm.data.toList=id):=Vu;have hsz:=valid_small hnm (Jq9 he);rw[he] at C;simp only[idPd] at T;clear hx hz HB HM b8 hnm hb he;go_wp2_with fail;refine C.out.mono ?_;rintro e w9 ⟨rfl,b9⟩;have q0:=(b9.cell (p:=⟨wr.heap.size,0,none⟩) s8).trans x0;have B9:Hid (Po w7 w9):=B8.out.trans (b9.mono B8.out.size);have M9:=Pe (M8.out.below b9);clear b9 x0 x1 x2 x3 x4 x5 B8 M8 C;go_wp2_with (at_mapUpdate;refine Jgd _ rfl _ _ _ rfl w7.heap.size ((l.take k).map idPd) rfl M9.out nm id hid.out Ka rfl rfl Ka ?_;intro w10 m10 g10);have M:Hid (MapB w10 w7.heap.size ((l.take (k+1)).map idPd)):=by
     show MapB _ _ _
     rw[T.out];exact m10
    have B:Hid (Po w7 w10):=B9.out.grown g10 B9.out.size (fun j hj=>Vh);clear m10 g10 M9 B9;go_wp2_with fail;go_roundw;case rel=>exact⟨k+1,Kj,Ka,N,M,B⟩
    case measure=>exact Q7
   ·have R:=Pe (Jal hz.out hx rfl he)
    have ne:=Jaf he;generalize badPd ((l.take k).map idPd) (id,p,r,z,t,m)=y at C R ne;clear hx hz HB HM b8 hnm hb he;go_wp2_with fail;refine C.out.mono ?_;rintro e w9 ⟨rfl,b9⟩;have B9:Hid (Po w7 w9):=B8.out.trans (b9.mono B8.out.size);clear b9 B8 C x0 x1 x2 x3 x4 x5;go_wp2_with fail;go_ret2;exact⟨ret_chk Vf Vf,B7.out.trans (B9.out.mono B7.out.size)⟩
  ·have R:=Pe (Jce hz.out Ka)
   have d:decide (k<l.length)=false:=Kg;clear hz hlt HM;go_wp2_with fail;go_ret2;exact⟨ret_chk Vf Vf,B7.out.trans (HB.out.mono B7.out.size)⟩
theorem Jfa(n a b:Int)(w:World):Pb 167 #[.int .i64 n,.int .i64 a,.int .i64 b] w (.bool (decide (a<=n/\n<=b))):=by
 by_cases h1:a<=n
 ·have R:=Pe (show decide (n<=b)=decide (a<=n/\n<=b) from decide_eq_decide.2 Ka)
  go_enter func167,ntmps167;exact Xy
 ·have g:decide (a<=n)=false:=Pj h1
  have R:=Pe (show false=decide (a<=n/\n<=b) from (Pj Ka).symm);clear h1;go_enter func167,ntmps167;exact Xy
theorem Jvo(id:List UInt8)(s:ByteArray)(p r z t m:Int)(w:World):Pc 168 #[pdV s p r z t m] w (.bool (decide (okPd (id,p,r,z,t,m)))):=by
 obtain⟨w7,hw7⟩:=Pi (w.alloc (boxP s p r z t m));obtain⟨b7,p0,p1,p2,p3,p4,p5,-⟩:=Jzz hw7;have B7:=Pe b7;clear b7;have C0:=Pe (fun W=>Jfa p 0 1000000 W);have C1:=Pe (fun W=>Jfa r 1 8 W);have C2:=Pe (fun W=>Jfa z 1 16 W);have C3:=Pe (fun W=>Jfa t 0 86400 W);have C4:=Pe (fun W=>Jfa m 1 255 W);by_cases q0:¬(0<=p/\p<=1000000)
 ·have R:=Pe (show decide (okPd (id,p,r,z,t,m))=false from Pj (fun h=>q0 Yj))
  rw[Pj q0] at C0;clear q0;go_enter func168,ntmps168;go_wp2_with fail;refine Pf (C0.out _) ?_;exact J5
 have h0:=Pu q0;clear q0;by_cases q1:¬(1<=r/\r<=8)
 ·have R:=Pe (show decide (okPd (id,p,r,z,t,m))=false from Pj (fun h=>q1 Yj))
  rw[Pk h0] at C0;rw[Pj q1] at C1;clear q1 h0;go_enter func168,ntmps168;go_wp2_with fail;refine Pf (C0.out _) ?_;go_wp2_with fail;refine Pf (C1.out _) ?_;exact J5
 have h1:=Pu q1;clear q1;by_cases q2:¬(1<=z/\z<=16)
 ·have R:=Pe (show decide (okPd (id,p,r,z,t,m))=false from Pj (fun h=>q2 Yj))
  rw[Pk h0] at C0;rw[Pk h1] at C1;rw[Pj q2] at C2;clear q2 h0 h1;go_enter func168,ntmps168;go_wp2_with fail;refine Pf (C0.out _) ?_;go_wp2_with fail;refine Pf (C1.out _) ?_;go_wp2_with fail;refine Pf (C2.out _) ?_;exact J5
 have h2:=Pu q2;clear q2;by_cases q3:¬(0<=t/\t<=86400)
 ·have R:=Pe (show decide (okPd (id,p,r,z,t,m))=false from Pj (fun h=>q3 Yj))
  rw[Pk h0] at C0;rw[Pk h1] at C1;rw[Pk h2] at C2;rw[Pj q3] at C3;clear q3 h0 h1 h2;go_enter func168,ntmps168;go_wp2_with fail;refine Pf (C0.out _) ?_;go_wp2_with fail;refine Pf (C1.out _) ?_;go_wp2_with fail;refine Pf (C2.out _) ?_;go_wp2_with fail;refine Pf (C3.out _) ?_;exact J5
 have h3:=Pu q3;clear q3;have R:=Pe (show decide (1<=m/\m<=255)=decide (okPd (id,p,r,z,t,m)) from decide_eq_decide.2 (by unfold okPd;simp only;omega));rw[Pk h0] at C0;rw[Pk h1] at C1;rw[Pk h2] at C2;rw[Pk h3] at C3;generalize decide (1<=m/\m<=255)=y at C4 R;clear h0 h1 h2 h3;go_enter func168,ntmps168;go_wp2_with fail;refine Pf (C0.out _) ?_;go_wp2_with fail;refine Pf (C1.out _) ?_;go_wp2_with fail;refine Pf (C2.out _) ?_;go_wp2_with fail;refine Pf (C3.out _) ?_;go_wp2_with fail;refine Pf (C4.out _) ?_;go_wp2_with fail;go_ret;exact⟨Jac R.out,B7.out⟩
theorem rcheck_any(v:Value)(l:List Pd)(d wi c:Int)(hl:l.length<=9223372036854775807)(w:World)(h:LstPd w v l):Pc 77 #[faV v d wi c] w (.tuple #[.int .i64 ((chkPd d wi c l).1),.int .i64 ((chkPd d wi c l).2)]):=by
 obtain⟨w7,hw7⟩:=Pi (w.alloc (Jvn v d wi c));obtain⟨b7,p0,p1,p2,p3,s7,-⟩:=J78 hw7;have H:=Pe (h.below b7);have B7:=Pe b7;obtain⟨A,n,rfl,-,-,-⟩:=h;clear b7;have C0:=Pe (fun W=>Jfa d 0 1000000 W);have C1:=Pe (fun W=>Jfa wi 0 86400 W);have C2:=Pe (fun W=>Jfa c 0 1000000 W);by_cases q0:¬(0<=d/\d<=1000000)
 ·have R:=Pe (Jc9 (l:=l) (fun h=>q0 Yp:¬okFa d wi c))
  rw[Pj q0] at C0;generalize chkPd d wi c l=q at R |-;clear q0  s7;go_enter func77,ntmps77;go_wp2_with fail;refine Pf (C0.out _) ?_;exact J6
 have h0:=Pu q0;clear q0;by_cases q1:¬(0<=wi/\wi<=86400)
 ·have R:=Pe (Jc9 (l:=l) (fun h=>q1 Yp:¬okFa d wi c))
  rw[Pk h0] at C0;rw[Pj q1] at C1;generalize chkPd d wi c l=q at R |-;clear q1 h0 s7;go_enter func77,ntmps77;go_wp2_with fail;refine Pf (C0.out _) ?_;go_wp2_with fail;refine Pf (C1.out _) ?_;exact J6
 have h1:=Pu q1;clear q1;by_cases q2:¬(0<=c/\c<=1000000)
 ·have R:=Pe (Jc9 (l:=l) (fun h=>q2 Yp:¬okFa d wi c))
  rw[Pk h0] at C0;rw[Pk h1] at C1;rw[Pj q2] at C2;generalize chkPd d wi c l=q at R |-;clear q2 h0 h1 s7;go_enter func77,ntmps77;go_wp2_with fail;refine Pf (C0.out _) ?_;go_wp2_with fail;refine Pf (C1.out _) ?_;go_wp2_with fail;refine Pf (C2.out _) ?_;exact J6
 have h2:=Pu q2;clear q2;have ok:okFa d wi c:=⟨h0,h1,h2⟩;rw[Pk h0] at C0;rw[Pk h1] at C1;rw[Pk h2] at C2;clear h0 h1 h2;by_cases h16:16<l.length
 ·have R:=Pe (Jkx ok h16)
  have g:(16:Int)<(l.length:Int):=Ka;generalize chkPd d wi c l=q at R |-;clear h16 ok s7;go_enter func77,ntmps77;go_wp2_with fail;refine Pf (C0.out _) ?_;go_wp2_with fail;refine Pf (C1.out _) ?_;go_wp2_with fail;refine Pf (C2.out _) ?_;exact J6
 have g:decide ((16:Int)<(l.length:Int))=false:=Q8;have ST:=Pe (Ji5 ok (show l.length<=16 by omega));have h16':l.length<=16:=Ka;obtain⟨q,hq⟩:=Pi (chkPd d wi c l);rw[hq];rw[hq] at ST;clear h16 hq ok s7;go_enter func77,ntmps77;go_wp2_with fail;refine Pf (C0.out _) ?_;go_wp2_with fail;refine Pf (C1.out _) ?_;go_wp2_with fail;refine Pf (C2.out _) ?_;go_wp2_with fail;go_loopw [5] (fun i wr=>∃k:Nat,i=.int .i64 k/\k<=l.length/\Hid (q=fbF badPd idPd ((l.take k).map idPd) k (l.drop k))/\Hid (Po w7 wr)) (fun i _=>l.length - (intOf i).toNat);case atStart=>exact⟨0,rfl,Nat.zero_le _,ST,Pe Pg⟩
 case round =>
  clear g ST C0 C1 C2;obtain⟨k,rfl,hk,hz,HB⟩:=hrel;by_cases hlt:k<l.length
  ·obtain⟨⟨id,p,r,z,t,m⟩,hx⟩:=Jah hlt
   obtain⟨nm,hnm⟩:=Pi (str id);obtain⟨b,o,rfl,hb,r0,-⟩:=six_at (H.out.below HB.out) hx hnm;have gk:(k:Int)<(l.length:Int):=Ka;have hid:nm.data.toList=id:=Vs;have V:=Pe (fun W=>Jgj nm W);rw[hid] at V;cases hv:Jak id with
   | false =>
    have R:=Pe (Jal hz.out hx (Jhh (seen:=(l.take k).map idPd) (x:=(id,p,r,z,t,m)) hv) Kd);rw[hv] at V;clear hx hz hnm hb hid hv;go_wp2_with fail;refine Pf (V.out _) ?_;exact Yq
   | true =>
    rw[hv] at V;have HX:=Pe hx;have HNM:=Pe hnm;have HV:=Pe hv;clear hx hid hv hnm hb;go_wp2_with fail;refine Pf (V.out _) ?_;clear V r0;go_wp2_with fail;go_loopw [6] (fun i wr=>∃j:Nat,i=.int .i64 j/\j<=k/\Hid (∀(t':Nat) (x:Pd),t'<j->l[t']?=some x->idPd x≠id)/\Hid (Po w7 wr)) (fun i _=>k - (intOf i).toNat);case atStart=>exact⟨0,rfl,Nat.zero_le _,Pe (fun t' x ht=>absurd ht (Nat.not_lt_zero _)),HB⟩
    case round =>
     clear HB;obtain⟨j,rfl,hj,hall,HB⟩:=hrel;by_cases hjk:j<k
     ·obtain⟨⟨id2,a2,c2,d2,e2,f2⟩,hy⟩:=Jah (show j<l.length by omega)
      obtain⟨nm2,hnm2⟩:=Pi (str id2);obtain⟨b1,o1,e1,hb1,r0,-⟩:=six_at (H.out.below HB.out) HX.out HNM.out;obtain⟨b2,o2,e2,hb2,s0,-⟩:=six_at (H.out.below HB.out) hy hnm2;cases e1;cases e2
      have gj:(j:Int)<(l.length:Int):=Ka;have gj2:(j:Int)<(k:Int):=Ka;by_cases hid:id2=id
      ·have R:=Pe (Jal hz.out HX.out (Ji4 (seen:=(l.take k).map idPd) (x:=(id,p,r,z,t,m)) HV.out (Jdk hjk hy hid)) Kd)
       have eb:=Jcn (show nm2=nm by rw[<-hnm2,<-HNM.out,hid]);clear hz hy hnm2 hb1 hb2 hid hall HX HNM HV;go_wp2_with fail;go_quiet (fail);go_wp2_with fail;go_ret2;exact⟨ret_chk Va Va,B7.out.trans ((Jab HB.out nq).mono B7.out.size)⟩
      ·have N:Hid (∀(t':Nat) (x:Pd),t'<j+1->l[t']?=some x->idPd x≠id):=by
        intro t' x ht hx;by_cases e:t'=j
        ·subst e
         exact Je
        ·exact hall.out t' x Ka hx
       have eb:=Jcx (str_ne hnm2 HNM.out hid);clear hy hnm2 hb1 hb2 hid hall;go_wp2_with fail;go_quiet (fail);have HN:=Pe (Jab HB.out nq);go_wp2_with fail;go_roundw;case rel=>exact⟨j+1,Kj,Ka,N,HN⟩
       case measure=>exact Q7
     ·have dj:decide (j<k)=false:=Ja
      have NM:id ∉ (l.take k).map idPd:=Jcy fun t' x ht hx=>hall.out t' x Ka hx
      obtain⟨b1,o1,e1,hb1,r0,r1,r2,r3,r4,r5⟩:=six_at (H.out.below HB.out) HX.out HNM.out;cases e1;have RF:=Pe (fun hf=>Jal hz.out HX.out (Jc8 (x:=(id,p,r,z,t,m)) HV.out NM hf) Kd);have RN:=Pe (fun hf=>Jcd hz.out HX.out (Jkw (x:=(id,p,r,z,t,m)) HV.out NM hf));have M:=Pe (Jvo id nm p r z t m wr);clear hz hall NM hjk HX HNM HV hb1;by_cases h1:okPd (id,p,r,z,t,m)
      ·have N:=Pe (RN.out h1)
       rw[Pk h1] at M;clear RF RN h1;go_wp2_with fail;refine M.out.mono ?_;rintro e w8 ⟨rfl,b8⟩;have B8:Hid (Po w7 w8):=HB.out.trans (b8.mono HB.out.size);clear b8 M HB;go_wp2_with fail;go_roundw;case rel=>exact⟨k+1,Kj,Ka,N,B8⟩
       case measure=>exact Q7
      ·have R:=Pe (RF.out h1)
       rw[Pj h1] at M;clear RF RN h1;go_wp2_with fail;refine M.out.mono ?_;rintro e w8 ⟨rfl,b8⟩;have B8:Hid (Po w7 w8):=HB.out.trans (b8.mono HB.out.size);clear b8 M HB;go_wp2_with fail;go_ret2;exact⟨ret_chk Va Va,B7.out.trans (B8.out.mono B7.out.size)⟩
  ·have R:=Pe (Jce hz.out Ka)
   have d:decide (k<l.length)=false:=Kg;clear hz hlt;exact Yq
open Go.RowKit Go.ChangeShapes Go.WideShapes Go.Deep
instance:Inhabited Pd:=⟨([],0,0,0,0,0)⟩
instance:Inhabited Ri:=⟨(0,0,0,0)⟩
theorem Jo1{H:Type}{enc:TypeId×Value->H}{P:Program}{base:Nat}{spare:Nat->Bool}{held:Bool}{t:TypeId}{f0 f1 f2 f3 f4 f5:Field}{fuel:Nat}{cs:List Value}{x:DataW H×List MemPlace}(ht:P.underlying t=some (.struct #[f0,f1,f2,f3,f4,f5]))(h:DataW.trod enc P w base spare held fuel t cs=some x):
  ∃y0 y1 y2 y3 y4 y5 n,cs.length=P.cellsOf t/\DataW.trod enc P w base spare held n f0.type ((cs.drop f0.offset).take (P.cellsOf f0.type))=some y0 /\
   DataW.trod enc P w base spare held n f1.type ((cs.drop f1.offset).take (P.cellsOf f1.type))=some y1/\DataW.trod enc P w base spare held n f2.type ((cs.drop f2.offset).take (P.cellsOf f2.type))=some y2 /\
   DataW.trod enc P w base spare held n f3.type ((cs.drop f3.offset).take (P.cellsOf f3.type))=some y3/\DataW.trod enc P w base spare held n f4.type ((cs.drop f4.offset).take (P.cellsOf f4.type))=some y4 /\
   DataW.trod enc P w base spare held n f5.type ((cs.drop f5.offset).take (P.cellsOf f5.type))=some y5:=by
 obtain⟨xs,n,_,rfl,hl,hlen,hf⟩:=DataW.trod_struct ht h;match xs,hlen with
 | [y0,y1,y2,y3,y4,y5],_=>exact⟨y0,y1,y2,y3,y4,y5,n,hl,Vq,Vp,Vo,V3,Vz,by simpa using hf 5 f5 rfl⟩
def OkPd1(x:Pd):Prop:=Ix64 x.2.2.1/\Ix64 x.2.2.2.1/\Ix64 x.2.2.2.2.1
theorem trod_prod{H:Type}{enc:TypeId×Value->H}{W:World}{n:Nat}{cs:List Value}{x:DataW H×List MemPlace}(h:DataW.trod enc prog W 0 (fun _=>true) true n 65 cs=some x):∃a:Pd,OkPd1 a/\cs=pdE a:=by
 obtain⟨y0,y1,y2,y3,y4,y5,n,hl,h0,h1,h2,h3,h4,h5⟩:=Jo1 underlying65 h;rw[show prog.cellsOf 65=6 by kernel_rfl] at hl;match cs,hl with
 | [c0,c1,c2,c3,c4,c5],_ =>
  simp only[show prog.cellsOf 9=1 by kernel_rfl,show prog.cellsOf 3=1 by kernel_rfl] at h0 h1 h2 h3 h4 h5;obtain⟨s,e0,-⟩:=DataW.trod_string underlying9 h0;obtain⟨p,e1,-⟩:=DataW.trod_int underlying3 h1;obtain⟨r,e2,_,w2⟩:=DataW.trod_int underlying3 h2;obtain⟨z,e3,_,w3⟩:=DataW.trod_int underlying3 h3;obtain⟨t,e4,_,w4⟩:=DataW.trod_int underlying3 h4;obtain⟨m,e5,-⟩:=DataW.trod_int underlying3 h5;simp at e0 e1 e2 e3 e4 e5;subst e0 e1 e2 e3 e4 e5;refine⟨(s.data.toList,p,r,z,t,m),⟨⟨Jb0 w2,Jbz w2⟩,⟨Jb0 w3,Jbz w3⟩,Jb0 w4,Jbz w4⟩,?_⟩;unfold pdE;rw[Jaw]
end S21
section
open Go
structure Tt where
 st:List S13.St
 ro:List Rt
 ca:List S14.Cl
 ex:List S14.Ex
 tr:List Tp
 fr:List Fq
 th:List S19.Th
 gu:List S19.Gt
 pa:List S20.Fp
 pr:List S21.Pd
 di:Int
 wi:Int
 cp:Int
def Jam(T:Tt):Nat->Int×Int
 | 0=>S13.chkT T.st
 | 1=>chkR T.ro
 | 2=>S14.chkC T.ca
 | 3=>S14.chkX T.ca.length T.ex
 | 4=>S17.chkT T.st.length T.ro.length T.ca.length T.tr
 | 5=>chkF (T.tr.map clT) T.fr
 | 6=>S19.chkH (T.tr.map S19.tcT) T.fr T.th
 | 7=>S19.chkU (T.tr.map S19.tcT) T.fr T.st.length T.gu
 | 8=>S20.chkP T.st.length T.pa
 | 9=>S21.chkPd T.di T.wi T.cp T.pr
 | _=>(0,0)
def ttF(P:Nat->Int×Int)(k:Nat):Nat->Int×Int×Int
 | 0=>(0,0,0)
 | n+1=>if(P k).2≠0 then((k:Int),(P k).1,(P k).2) else ttF P (k+1) n
def ttC(T:Tt):Int×Int×Int:=ttF (Jam T) 0 10
section
variable {P:Nat->Int×Int} {k n:Nat}
theorem Jmc(h:(P k).2≠0):ttF P k (n+1)=((k:Int),(P k).1,(P k).2):=by unfold ttF;rw[if_pos h]
theorem Jmd(h:(P k).2=0):ttF P k (n+1)=ttF P (k+1) n:=by
 show(if(P k).2≠0 then _ else _)=_
 rw[if_neg (fun q=>q h)]
theorem J79:∀(n k:Nat),(ttF P k n).2.2=0↔∀j,k<=j->j<k+n->(P j).2=0
 | 0,k=>⟨fun _ j h1 h2=>Ka,fun _=>rfl⟩
 | n+1,k=>by
  by_cases h:(P k).2=0
  ·rw[Jmd h,J79 n (k+1)]
   constructor
   ·intro g j h1 h2
    by_cases e:j=k
    ·rw[e];exact h
    ·exact g j Ka Ka
   ·intro g j h1 h2
    exact g j Ka Ka
  ·rw[Jmc h]
   exact⟨fun g=>absurd g h,fun g=>absurd (g k Ph Ka) h⟩
end
theorem Jz1(T:Tt):(ttC T).2.2=0↔∀j,j<10->(Jam T j).2=0:=by
 unfold ttC;rw[J79];exact⟨fun h j hj=>h j (Nat.zero_le _) Ka,fun h j _ hj=>h j Ka⟩
def fewN(T:Tt):Prop:=T.st.length<=70/\T.ro.length<=70/\T.ca.length<=70/\T.ex.length<=70/\T.tr.length<=40/\T.fr.length<=70/\T.th.length<=140/\T.gu.length<=140/\T.pa.length<=70/\T.pr.length<=20
instance (T:Tt):Decidable (fewN T):=by unfold fewN;infer_instance
def fewT(T:Tt):Bool:=decide (fewN T)&&T.tr.all fun x=>decide ((clT x).length<=40)
theorem Jfs{T:Tt}(h:¬fewN T):fewT T=false:=by unfold fewT;rw[Pj h];rfl
theorem J4m{T:Tt}{k:Nat}{x:Tp}(h:T.tr[k]?=some x)(hx:40<(clT x).length):fewT T=false:=by
 unfold fewT;rw[Bool.and_eq_false_iff];right;rw[List.all_eq_false];exact⟨x,List.mem_iff_getElem?.2 ⟨k,h⟩,Kb⟩
theorem Qah{T:Tt}(h:fewN T)(h2:∀(j:Nat) x,j<T.tr.length->T.tr[j]?=some x->(clT x).length<=40):fewT T=true:=by
 unfold fewT;rw[Pk h,Bool.true_and,List.all_eq_true];intro x hx;obtain⟨j,hj⟩:=List.mem_iff_getElem?.1 hx;exact Pk (h2 j x (Pm hj).1 hj)
theorem Jz2{T:Tt}:fewT T=true↔fewN T/\∀x∈T.tr,(clT x).length<=40:=by
 unfold fewT;exact Yo
end
end Go.Proofs.YtpifdbphmnifdaaGreatDoor
