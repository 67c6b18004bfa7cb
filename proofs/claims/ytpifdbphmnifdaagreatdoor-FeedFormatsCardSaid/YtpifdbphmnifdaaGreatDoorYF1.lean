/-
  Facts. Condition: each theorem's own.
-/
import Derived.Deep.Slices
import Derived.ChangeSame
import Derived.Deep.Strs
import Derived.Lib.SmallJoins
import Derived.Test.YtpifdbphmnifdaaGreatDoorYF0
set_option maxRecDepth 100000
set_option maxHeartbeats 8000000
section
variable {p:Prop}
theorem Q8(h:p:=by rw[decide_eq_false_iff_not];omega):p:=h
theorem Va(h:p:=by rw[R.out]):p:=h
theorem Vb(h:p:=by have q0:(n==45)=false:=Jaa (by omega);have q1:(n==95)=false:=Jaa (by omega);have q2:(n==46)=false:=Jaa (by omega);clear hc hid ht h;go_wp2_with fail;go_ret;exact⟨Jac (by rw[<-HR.out,T.out]),rfl⟩):p:=h
theorem Vc(h:p:=by go_wp2_with fail;go_ret2;exact⟨ret_chk (by rw[R.out]) (by rw[R.out]),Pg⟩):p:=h
theorem Vd(h:p:=by go_wp2_with fail;go_ret;exact⟨Jad R.out.symm,B7.out⟩):p:=h
theorem Ve(h:p:=by go_wp2_with fail;go_ret2;exact⟨ret_chk (by rw[<-HQ.out,R.out]) (by rw[<-HQ.out,R.out]),rfl⟩):p:=h
theorem Vf(h:p:=by rw[<-HQ.out,R.out]):p:=h
theorem Vg(h:p:=by go_wp2_with fail;go_ret;exact⟨Jad R.out.symm,rfl⟩):p:=h
theorem Vh(h:p:=by cases hj;exact Nat.le_refl _):p:=h
theorem Vi(h:p:=by have:=congrArg (fun b:ByteArray=>b.data.toList) e2;simpa [str] using this):p:=h
theorem Vj(h:p:=by rw[cell_of_row _ _ 2 _ _ _ c7];rfl):p:=h
theorem Vk(h:p:=by rw[cell_of_row _ _ 1 _ _ _ c7];rfl):p:=h
theorem Vl(h:p:=by rw[cell_of_row _ _ 0 _ _ _ c7];rfl):p:=h
theorem Vm(h:p:=by decide +kernel):p:=h
theorem Vn(h:p:=by rw[Jca,decide_eq_false_iff_not];omega):p:=h
theorem Vo(h:p:=by simpa using hf 2 f2 rfl):p:=h
theorem Vp(h:p:=by simpa using hf 1 f1 rfl):p:=h
theorem Vq(h:p:=by simpa using hf 0 f0 rfl):p:=h
theorem Vr(h:p:=by rw[beq_eq_false_iff_ne];omega):p:=h
theorem Vs(h:p:=by rw[<-hnm]):p:=h
theorem Vt(h:p:=by clear hz hlt HM;go_wp2_with fail;go_ret2;exact⟨ret_chk Vf Vf,HB.out⟩):p:=h
theorem Vu(h:p:=by show _=_;rw[<-hnm]):p:=h
theorem Vv(h:p:=by rw[<-hs]):p:=h
theorem Vw(h:p:=by rw[<-hs,Jai];exact valid_le hv):p:=h
theorem Vx(h:p:=by rw[<-hnm,<-HT.out,he]):p:=h
theorem Vy(h:p:=by rw[hs,ht,e]):p:=h
theorem Vz(h:p:=by simpa using hf 4 f4 rfl):p:=h
theorem V3(h:p:=by simpa using hf 3 f3 rfl):p:=h
end
open Go.Proofs.Tryz
namespace Go.Proofs.YtpifdbphmnifdaaGreatDoor
section
open Go
abbrev Rt:=List UInt8×Int×Bool
def okM(m:Int):Prop:=0<=m/\m<8
instance (m:Int):Decidable (okM m):=by unfold okM;infer_instance
def badR(seen:List (List UInt8))(x:Rt):Int:=if Jak x.1=false then 12 else if x.1∈seen then 6 else if okM x.2.1 then 0 else 2
variable {s m n k:Nat} {c t:List UInt8} {seen:List (List UInt8)} {q:Int}
theorem Jiy{x:Rt}(h:Jak x.1=false):badR seen x=12:=by unfold badR;rw[if_pos h]
theorem Jkc{x:Rt}(h:Jak x.1=true)(h2:x.1∈seen):badR seen x=6:=by unfold badR;rw[if_neg Kx,if_pos h2]
theorem Jnw{x:Rt}(h:Jak x.1=true)(h2:x.1 ∉ seen)(h3:¬okM x.2.1):badR seen x=2:=by unfold badR;rw[if_neg Kx,if_neg h2,if_neg h3]
theorem Jnx{x:Rt}(h:Jak x.1=true)(h2:x.1 ∉ seen)(h3:okM x.2.1):badR seen x=0:=by unfold badR;rw[if_neg Kx,if_neg h2,if_pos h3]
theorem Ju5{x:Rt}(h:badR seen x=0):Jak x.1=true:=by
 cases hv:Jak x.1 with
 | true=>rfl
 | false=>rw[Jiy hv] at h;simp at h
theorem valid_le{l:List UInt8}(h:Jak l=true):l.length<=32:=((Jf9 l).1 h).1.2
def idR(x:Rt):List UInt8:=x.1
def chkR(l:List Rt):Int×Int:=if 64<l.length then(0,5) else fbF badR idR [] 0 l
theorem Jny{l:List Rt}(h:64<l.length):chkR l=(0,5):=by unfold chkR;rw[if_pos h]
theorem Jkd{l:List Rt}(h:l.length<=64):chkR l=fbF badR idR ((l.take 0).map idR) 0 (l.drop 0):=by unfold chkR;rw[if_neg Ka];rfl
def nmB:List UInt8:=[98,117,115]
def nmL:List (List UInt8):=[nmB,[116,114,97,109],[109,101,116,114,111],[114,97,105,108],[102,101,114,114,121],[99,111,97,99,104],[99,97,98,108,101],[102,117,110,105,99,117,108,97,114]]
def nmR(m:Nat):List UInt8:=nmL.getD m []
def isN(s x:List UInt8):Bool:=decide (x=s)
def Jer(s:List UInt8):Int:=fdT (isN s) nmL
theorem Jqn(s:List UInt8):Jer s=-1\/(0<=Jer s/\Jer s<8):=Jlt (isN s) nmL
theorem Qcu(h:m<8):nmL[m]?=some (nmR m):=by
 unfold nmR;have h8:m<nmL.length:=h;rw[List.getD_eq_getElem?_getD,List.getElem?_eq_getElem h8];rfl
theorem Jxj:∀m:Nat,m<8->1<=(nmR m).length/\(nmR m).length<=9:=Kd
def Jes(n:Int):Nat:=(n % 18446744073709551616).toNat
theorem Jxk(n:Int):W64 (Jes n):=by unfold Jes W64;omega
theorem Jxl(n:Int):((Jes n:Nat):Int)=n % 18446744073709551616:=by unfold Jes;omega
def catR(a:List UInt8)(m:Nat):List UInt8:=if a=[] then nmR m else a++43::nmR m
def txF(n:Nat):Nat->List UInt8
 | 0=>[]
 | m+1=>if n.testBit m then catR (txF n m) m else txF n m
theorem J84(h:n.testBit m=true):txF n (m+1)=catR (txF n m) m:=by
 conv=>lhs;unfold txF
 rw[if_pos h]
theorem Qcv(h:n.testBit m=false):txF n (m+1)=txF n m:=by
 conv=>lhs;unfold txF
 rw[if_neg Kx]
theorem Jxm(n:Nat):∀m:Nat,m<=8->(txF n m).length<=10*m
 | 0,_=>Nat.le_refl _
 | m+1,h=>by
  have ih:=Jxm n m Ka;have:=(Jxj m Ka).2;unfold txF catR;split
  ·split
   ·omega
   ·rw[Pq,List.length_cons];omega
  ·omega
def Jlv:List UInt8:=[110,111,110,101]
def textR(n:Nat):List UInt8:=if txF n 8=[] then Jlv else txF n 8
theorem Ju6(h:txF n 8=[]):textR n=Jlv:=by unfold textR;rw[if_pos h]
theorem Ju7(h:txF n 8≠[]):textR n=txF n 8:=by unfold textR;rw[if_neg h]
theorem J3d(n:Nat):(textR n).length<=100:=by
 have:=Jxm n 8 Ka;unfold textR;split
 ·decide
 ·omega
theorem J3e:∀n:Nat,n<256->textR n≠[]:=Vm
def fmtR(n:Int):List UInt8×Int:=if n<0\/255<n then([],2) else(textR n.toNat,0)
theorem Jsh{n:Int}(h:n<0\/255<n):fmtR n=([],2):=by unfold fmtR;rw[if_pos h]
theorem Jxn(h:n<256):fmtR (n:Int)=(textR n,0):=by unfold fmtR;rw[if_neg Ka,Int.toNat_natCast]
def cutR(s:Nat)(c:List UInt8):Option Nat:=if Jer c=-1 then none else if s<2 ^ (Jer c).toNat then some (s+2 ^ (Jer c).toNat) else none
theorem J3f(h:Jer c=-1):cutR s c=none:=by unfold cutR;rw[if_pos h]
theorem Ju8(h:Jer c=(m:Int))(h2:¬s<2 ^ m):cutR s c=none:=by
 unfold cutR;rw[h,Int.toNat_natCast,if_neg Ka,if_neg h2]
theorem Jxo(h:Jer c=(m:Int))(h2:s<2 ^ m):cutR s c=some (s+2 ^ m):=by
 unfold cutR;rw[h,Int.toNat_natCast,if_neg Ka,if_pos h2]
def prsF(s:Nat)(c:List UInt8):List UInt8->Option Nat
 | []=>cutR s c
 | x::r=>if x=43 then(match cutR s c with | some t=>prsF t [] r | none=>none) else prsF s (c++[x]) r
def prsR(t:List UInt8):Int:=if t=Jlv then 0 else match prsF 0 [] t with | some n=>(n:Int) | none=>-1
def ansR(n:Int):Int×Int:=if n=-1 then(0,3) else(n,0)
theorem Jnz(n:Nat):ansR (n:Int)=((n:Int),0):=by unfold ansR;rw[if_neg Ka]
def optR(o:Option Nat):Int:=match o with | some n=>(n:Int) | none=>-1
theorem Jxp(h:t≠Jlv):prsR t=optR (prsF 0 [] (t.drop 0)):=by unfold prsR;rw[if_neg h];rfl
theorem J3g(hr:q=optR (prsF s c (t.drop k)))(h:t.length<=k):q=optR (cutR s c):=by
 exact Ky
theorem Jxq{x:UInt8}(hr:q=optR (prsF s c (t.drop k)))(h:t[k]?=some x)(hx:x≠43):q=optR (prsF s (c++[x]) (t.drop (k+1))):=by
 rw[hr,Jbg t k x h];conv=>lhs;unfold prsF
 rw[if_neg hx]
theorem J3h{u:Nat}(hr:q=optR (prsF s c (t.drop k)))(h:t[k]?=some 43)(hc:cutR s c=some u):q=optR (prsF u [] (t.drop (k+1))):=by
 rw[hr,Jbg t k 43 h];conv=>lhs;unfold prsF
 rw[if_pos rfl,hc]
theorem Jsi(hr:q=optR (prsF s c (t.drop k)))(h:t[k]?=some 43)(hc:cutR s c=none):q=-1:=by
 rw[hr,Jbg t k 43 h];unfold prsF;rw[if_pos rfl,hc];rfl
theorem J85(hs:s<256):s<2 ^ m↔∀j,j<64->s.testBit j=true->j<m:=by
 constructor
 ·intro h j _ hj
  rcases Nat.lt_or_ge j m with h2 | h2
  ·exact h2
  ·rw[Nat.testBit_lt_two_pow (Ps h (Nat.pow_le_pow_right Kd h2))] at hj
   cases hj
 ·intro h
  apply Nat.lt_pow_two_of_testBit
  intro j hj;rcases Nat.lt_or_ge j 64 with h2 | h2
  ·cases hb:s.testBit j with
   | false=>rfl
   | true=>have:=h j h2 hb;omega
  ·exact Nat.testBit_lt_two_pow (Ps hs (Nat.le_trans (by decide:256<=2 ^ 64) (Nat.pow_le_pow_right Kd h2)))
theorem Jxr(h:s<2 ^ m):s ||| 2 ^ m=s+2 ^ m:=by
 rw[Jw2 (Nat.testBit_lt_two_pow h)]
theorem Jke:∀n:Nat,n<256->n≠0->List.intercalate [43] ((elems n).map nmR)=textR n:=Vm
theorem Ju9:∀n:Nat,n<256->∀m∈elems n,m<8:=Vm
open Go.RowKit
theorem valid_all_any(s:ByteArray)(w:World):Pb 193 #[.string s] w (.bool (Jak s.data.toList)):=by
 by_cases hs:s.size<=1099511627776
 ·exact Jgf s hs w
 have e:=Jbo s Ka;have he:s.toList.isEmpty=false:=Vn;have g:(32:Int)<(s.size:Int):=Ka;clear hs;exact K6
theorem rvalid_all_any(s:ByteArray)(w:World):Pb 158 #[.string s] w (.bool (Jak s.data.toList)):=by
 by_cases hs:s.size<=1099511627776
 ·exact Jj8 s hs w
 have e:=Jbo s Ka;have he:((s.size:Int)==0)=false:=Jaa Ka;have he2:(s.size==0)=false:=Vr;have g:(32:Int)<(s.size:Int):=Ka;clear hs;rw[e];go_enter func158,ntmps158;exact Kc
theorem valid_small{s:ByteArray}{id:List UInt8}(hs:str id=s)(hv:Jak id=true):s.size<=32:=by
 exact Vw
open Go.RowKit Go.ChangeShapes Go.WideShapes Go.Deep
theorem Jb1{α:Type}[Inhabited α]{enc':α->List Value}{ok:α->Prop}{k:Nat}{ST T:TypeId}(k0:0<k)(hk:∀a,(enc' a).length=k)(hu:prog.underlying ST=some (.slice T))(hC:prog.cellsOf T=k)
  {H:Type} {enc:TypeId×Value->H} {W:World} {n:Nat} {cs:List Value} {x:DataW H×List MemPlace}
  (he:∀n cs x,DataW.trod enc prog W 0 (fun _=>true) true n T cs=some x->∃a:α,ok a/\cs=enc' a)
  (hf:DataW.trod enc prog W 0 (fun _=>true) true n ST cs=some x):∃v l,cs=[v]/\LstG enc' W v l/\l.length<=9223372036854775807/\∀a∈l,ok a:=by
 rcases open_slice hu hf with⟨hcs,_⟩ | ⟨a,len,cap,m,n,D,Pl,hcs,_,hl,hm,hmm,_,hcell⟩
 ·exact⟨_,[],hcs,LstG.nil _ _,Ke,fun x hx=>absurd hx Ke⟩
 ·simp only[if_true] at hmm
  rw[hC] at hcell;have each:∀i,i<len->∃q:α,ok q/\∀j x,(enc' q)[j]?=some x->W.cell? (a.add (i*k+j))=some x:=by
   intro i hi;obtain⟨cs',h1,h2⟩:=hcell i Ka;obtain⟨q,hq,rfl⟩:=he _ _ _ h2;obtain⟨_,hcl,hat⟩:=World.cells?_some h1;refine⟨q,hq,fun j x hj=>?_⟩;have hjl:=(Pm hj).1;rw[hk] at hjl;rw[<-Go.Deep.add_add,hat j hjl,hj]
  let f:Nat->α:=fun i=>if hi:i<len then Classical.choose (each i hi) else default
  have hfi:∀i (hi:i<len),ok (f i)/\∀j x,(enc' (f i))[j]?=some x->W.cell? (a.add (i*k+j))=some x:=by
   intro i hi;show ok (if hi:i<len then _ else _)/\_
   simp only[f,dif_pos hi];exact Classical.choose_spec (each i hi)
  have hll:((List.range len).map f).length=len:=Ke;have hat:∀i,i<len->((List.range len).map f)[i]?=some (f i):=fun i hi=>by simp[hi]
  refine⟨_,(List.range len).map f,hcs,⟨some a,cap,by rw[hll],by rw[hll];exact hl,fun h=>absurd h Ke,fun h0=>?_⟩,by rw[hll];unfold maxLen at hm;omega,fun q hq=>?_⟩
  ·rw[hll] at h0
   obtain⟨b,off,spot⟩:=a;have hx0:∃x,(enc' (f 0))[0]?=some x:=⟨_,List.getElem?_eq_getElem (by rw[hk];exact k0)⟩;obtain⟨x0,hx0⟩:=hx0;have h00:=(hfi 0 h0).2 0 x0 hx0;have hspot:spot=none:=by simpa [Addr.add] using World.cell?_spot h00
   subst hspot;have hadd:∀j,(⟨b,off,none⟩:Addr).add j=⟨b,off+j,none⟩:=fun j=>Ks
   refine⟨b,off,rfl,?_,fun j x hj=>?_⟩
   ·rw[hadd] at h00
    exact World.block_lt_of_cell? _ _ h00
   ·have hjl:=(Pm hj).1
    rw[Jnq hk,hll] at hjl;have hi:j / k<len:=Nat.div_lt_of_lt_mul (by rw[Nat.mul_comm];exact hjl);have hjk:j / k*k+j % k=j:=by rw[Nat.mul_comm];exact Nat.div_add_mod j k
    have h2:=Jbq hk (hat _ hi) (j % k) (Nat.mod_lt _ k0);rw[hjk,hj] at h2;have:=(hfi _ hi).2 (j % k) x h2.symm;rw[hjk,hadd] at this;exact this
  ·obtain⟨i,hi,rfl⟩:=List.mem_map.1 hq
   exact(hfi i (List.mem_range.1 hi)).1
theorem Jhz{H:Type}{enc:TypeId×Value->H}{P:Program}{w:World}{base:Nat}{spare:Nat->Bool}{held:Bool}{t:TypeId}{f0 f1 f2 f3 f4:Field}{fuel:Nat}{cs:List Value}{x:DataW H×List MemPlace}(ht:P.underlying t=some (.struct #[f0,f1,f2,f3,f4]))(h:DataW.trod enc P w base spare held fuel t cs=some x):
  ∃y0 y1 y2 y3 y4 n,cs.length=P.cellsOf t/\DataW.trod enc P w base spare held n f0.type ((cs.drop f0.offset).take (P.cellsOf f0.type))=some y0 /\
   DataW.trod enc P w base spare held n f1.type ((cs.drop f1.offset).take (P.cellsOf f1.type))=some y1/\DataW.trod enc P w base spare held n f2.type ((cs.drop f2.offset).take (P.cellsOf f2.type))=some y2 /\
   DataW.trod enc P w base spare held n f3.type ((cs.drop f3.offset).take (P.cellsOf f3.type))=some y3/\DataW.trod enc P w base spare held n f4.type ((cs.drop f4.offset).take (P.cellsOf f4.type))=some y4:=by
 obtain⟨xs,n,_,rfl,hl,hlen,hf⟩:=DataW.trod_struct ht h;match xs,hlen with
 | [y0,y1,y2,y3,y4],_=>exact⟨y0,y1,y2,y3,y4,n,hl,Vq,Vp,Vo,V3,Vz⟩
end
namespace S13
open Go
abbrev St:=List UInt8×Int×Bool×Int
def idsS(l:List St):List (List UInt8):=l.map fun x=>x.1
theorem J86(l:List St):(idsS l).length=l.length:=by unfold idsS;rw[Pr]
variable {k:Nat} {seen:List (List UInt8)} {id:List UInt8}
theorem Jsj{l:List St}{x:St}(h:l[k]?=some x):idsS (l.take (k+1))=idsS (l.take k)++[x.1]:=by
 unfold idsS;rw[Jbx l k x h,List.map_append];rfl
theorem Jlw{l:List St}:id∈idsS l↔∃(j:Nat) (x:St),l[j]?=some x/\x.1=id:=by
 unfold idsS;rw[List.mem_map];constructor
 ·rintro⟨x,hx,rfl⟩
  exact Qy
 ·rintro⟨j,x,hx,rfl⟩
  exact⟨x,List.mem_iff_getElem?.2 ⟨j,hx⟩,rfl⟩
def farS(z c:Int):Prop:=z<0\/16<=z\/c<0\/3600<c
instance (z c:Int):Decidable (farS z c):=by unfold farS;infer_instance
def badS(seen:List (List UInt8))(x:St):Int:=if Jak x.1=false then 12 else if x.1∈seen then 6 else if farS x.2.1 x.2.2.2 then 2 else 0
theorem Jlx{x:St}(h:Jak x.1=false):badS seen x=12:=by unfold badS;rw[if_pos h]
theorem Jn0{x:St}(h:Jak x.1=true)(h2:x.1∈seen):badS seen x=6:=by unfold badS;rw[if_neg Kx,if_pos h2]
theorem Jxs{x:St}(h:Jak x.1=true)(h2:x.1 ∉ seen)(h3:farS x.2.1 x.2.2.2):badS seen x=2:=by unfold badS;rw[if_neg Kx,if_neg h2,if_pos h3]
theorem Jsk{x:St}(h:Jak x.1=true)(h2:x.1 ∉ seen)(h3:¬farS x.2.1 x.2.2.2):badS seen x=0:=by unfold badS;rw[if_neg Kx,if_neg h2,if_neg h3]
def chkF(seen:List (List UInt8))(k:Nat):List St->Int×Int
 | []=>(0,0)
 | x::r=>if badS seen x=0 then chkF (seen++[x.1]) (k+1) r else((k:Int),badS seen x)
def chkT(l:List St):Int×Int:=if 64<l.length then(0,5) else chkF [] 0 l
theorem chkT_many{l:List St}(h:64<l.length):chkT l=(0,5):=by unfold chkT;rw[if_pos h]
theorem J3i{l:List St}(h:l.length<=64):chkT l=chkF [] 0 l:=by unfold chkT;rw[if_neg Ka]
theorem chkT_start{l:List St}(h:l.length<=64):chkT l=chkF (idsS (l.take 0)) 0 (l.drop 0):=by rw[J3i h];rfl
theorem Jxt{x:St}{r:List St}(h:badS seen x=0):chkF seen k (x::r)=chkF (seen++[x.1]) (k+1) r:=by
 conv=>lhs;unfold chkF
 rw[if_pos h]
theorem J3j{x:St}{r:List St}(h:badS seen x≠0):chkF seen k (x::r)=((k:Int),badS seen x):=by
 unfold chkF;rw[if_neg h]
theorem Jn1{l:List St}{x:St}(hr:chkT l=chkF (idsS (l.take k)) k (l.drop k))(h:l[k]?=some x)(hb:badS (idsS (l.take k)) x=0):chkT l=chkF (idsS (l.take (k+1))) (k+1) (l.drop (k+1)):=by
 rw[hr,Jbg l k x h,Jxt hb,Jsj h]
theorem Jgi{l:List St}{x:St}(hr:chkT l=chkF (idsS (l.take k)) k (l.drop k))(h:l[k]?=some x){e:Int}(hb:badS (idsS (l.take k)) x=e)(he:e≠0):chkT l=((k:Int),e):=by
 rw[hr,Jbg l k x h,J3j (by rw[hb];exact he),hb]
theorem Jn2{l:List St}(hr:chkT l=chkF (idsS (l.take k)) k (l.drop k))(h:l.length<=k):chkT l=(0,0):=by
 exact Ky
def fndF(id:List UInt8)(k:Nat):List St->Int
 | []=>-1
 | x::r=>if x.1=id then(k:Int) else fndF id (k+1) r
def fndT(l:List St)(id:List UInt8):Int:=fndF id 0 l
theorem J3k{l:List St}{x:St}(h:l[k]?=some x)(hx:x.1=id):fndF id k (l.drop k)=(k:Int):=by
 rw[Jbg l k x h];unfold fndF;rw[if_pos hx]
theorem Jxu{l:List St}{x:St}(h:l[k]?=some x)(hx:x.1≠id):fndF id k (l.drop k)=fndF id (k+1) (l.drop (k+1)):=by
 rw[Jbg l k x h];conv=>lhs;unfold fndF
 rw[if_neg hx]
theorem J3l{l:List St}(h:l.length<=k):fndF id k (l.drop k)=-1:=by
 rw[List.drop_of_length_le h];rfl
theorem Jxv:∀(l:List St) (id:List UInt8) (k:Nat),(fndF id k l=-1/\id ∉ idsS l)\/∃(j:Nat) (x:St),l[j]?=some x/\x.1=id/\fndF id k l=((k+j:Nat):Int)/\id ∉ idsS (l.take j)
 | [],_,_=>.inl ⟨rfl,by simp[idsS]⟩
 | y::r,id,k=>by
  by_cases hy:y.1=id
  ·refine .inr ⟨0,y,rfl,hy,?_,by simp[idsS]⟩
   unfold fndF;rw[if_pos hy];rfl
  ·have e:fndF id k (y::r)=fndF id (k+1) r:=by
    conv=>lhs;unfold fndF
    rw[if_neg hy]
   have hy':¬id=y.1:=fun h=>hy h.symm
   rcases Jxv r id (k+1) with⟨h1,h2⟩ | ⟨j,x,h1,h2,h3,h4⟩
   ·refine .inl ⟨by rw[e,h1],?_⟩
    simp only[idsS,List.map_cons,List.mem_cons,not_or];exact⟨hy',h2⟩
   ·refine .inr ⟨j+1,x,h1,h2,?_,?_⟩
    ·rw[e,h3]
     congr 1
     omega
    ·rw[List.take_succ_cons]
     simp only[idsS,List.map_cons,List.mem_cons,not_or];exact⟨hy',h4⟩
theorem J87(l:List St)(id:List UInt8):(fndT l id=-1/\id ∉ idsS l)\/∃(j:Nat) (x:St),l[j]?=some x/\x.1=id/\fndT l id=(j:Int)/\id ∉ idsS (l.take j):=by
 have:=Jxv l id 0;simp only[Nat.zero_add] at this;exact this
theorem J88{l:List St}{i:Nat}{x:St}(h:l[i]?=some x):fndT l x.1<(i:Int)↔x.1∈idsS (l.take i):=by
 rcases J87 l x.1 with⟨_,h2⟩ | ⟨j,y,h1,h2,h3,h4⟩
 ·exact absurd (Jlw.2 ⟨i,x,h,rfl⟩) h2
 ·rw[h3]
  constructor
  ·intro hlt
   refine Jlw.2 ⟨j,y,?_,h2⟩;rw[List.getElem?_take,if_pos Ka];exact h1
  ·intro hm
   obtain⟨k,z,hz,hzx⟩:=Jlw.1 hm;rw[List.getElem?_take] at hz;split at hz
   ·next hk =>
    rcases Nat.lt_or_ge j i with hj | hj
    ·omega
    ·refine absurd (Jlw.2 ⟨k,z,?_,hzx⟩) h4
     rw[List.getElem?_take,if_pos Ka];exact hz
   ·cases hz
open Go.RowKit
def se(x:St):List Value:=[.string (str x.1),.int .i64 x.2.1,.bool x.2.2.1,.int .i64 x.2.2.2]
theorem se_len(x:St):(se x).length=4:=rfl
abbrev LstS:=@LstG St se
theorem four_at{w:World}{A:Option Addr}{n c:Nat}{l:List St}(h:LstS w (.slice A n c) l){i:Nat}{id:List UInt8}{z:Int}{f:Bool}{ch:Int}(hs:l[i]?=some (id,z,f,ch)){s:ByteArray}(hst:str id=s):
  ∃b o,A=some ⟨b,o,none⟩/\b<w.heap.size/\w.cell? ⟨b,o+i*4,none⟩=some (.string s)/\w.cell? ⟨b,o+i*4+1,none⟩=some (.int .i64 z)/\w.cell? ⟨b,o+i*4+2,none⟩=some (.bool f)/\w.cell? ⟨b,o+i*4+3,none⟩=some (.int .i64 ch):=by
 subst hst;obtain⟨A',c',hv,_,_,hx⟩:=h;cases hv;have hi:=(Pm hs).1;obtain⟨b,o,rfl,hb,hcell⟩:=hx Ka;refine⟨b,o,rfl,hb,hcell (i*4) _ (by rw[<-Nat.add_zero (i*4),Jbq se_len hs 0 Ka];rfl),(hcell (i*4+1) _ (by rw[Jbq se_len hs 1 Ka];rfl):_),(hcell (i*4+2) _ (by rw[Jbq se_len hs 2 Ka];rfl):_),(hcell (i*4+3) _ (by rw[Jbq se_len hs 3 Ka];rfl):_)⟩
abbrev boxS(s:ByteArray)(z:Int)(f:Bool)(ch:Int):Obj:=.cells #[.string s,.int .i64 z,.bool f,.int .i64 ch] 112 (0,0)
theorem J7d{w w7:World}{s:ByteArray}{z:Int}{f:Bool}{ch:Int}(h:w.alloc (boxS s z f ch)=w7):
  Po w w7/\w7.cell? ⟨w.heap.size,0,none⟩=some (.string s)/\w7.cell? ⟨w.heap.size,1,none⟩=some (.int .i64 z)/\w7.cell? ⟨w.heap.size,2,none⟩=some (.bool f)/\w7.cell? ⟨w.heap.size,3,none⟩=some (.int .i64 ch)/\w.heap.size<w7.heap.size:=by
 subst h;have c7:=heap_alloc_new w (boxS s z f ch);exact⟨(Below.refl _ _).alloc Ph _,Vl,Vk,Vj,by rw[cell_of_row _ _ 3 _ _ _ c7];rfl,Ke⟩
theorem str_ne{x:List UInt8}{s t:ByteArray}(hs:str x=s)(ht:str id=t)(h:x≠id):s≠t:=by
 intro e;apply h;have e2:str x=str id:=Vy;exact Vi
theorem ret_chk{a b c d:Int}(h:a=b)(k:c=d):Ending.returned (.tuple #[.int .i64 a,.int .i64 c])=.returned (.tuple #[.int .i64 b,.int .i64 d]):=Qm
theorem Jxw(id:List UInt8)(z:Int)(f:Bool)(ch:Int)(s:ByteArray)(hs:str id=s)(b:Nat)(ls:List (List UInt8))(w:World)(hm:MapB w b ls):
  Pc 188 #[.agg #[.string s,.int .i64 z,.bool f,.int .i64 ch],.map (some b)] w (.int .i64 (badS ls (id,z,f,ch))):=by
 have hid:s.data.toList=id:=Vv;obtain⟨w7,hw7⟩:=Pi (w.alloc (.cells #[.string s,.int .i64 z,.bool f,.int .i64 ch] 112 (0,0)));obtain⟨b7,p0,p1,p2,p3,-⟩:=J7d hw7;have lk:=fun hq:s.size<=32=>(hm.below b7).look s id hid Ka
 have V:=Pe (valid_all_any s w7);rw[hid] at V;have B7:=Pe b7;clear b7 hm hid;cases hv:Jak id with
 | false =>
  have R:=Pe (Jlx (seen:=ls) (x:=(id,z,f,ch)) hv);rw[hv] at V;clear hv hs lk;go_enter func188,ntmps188;go_wp2_with fail;refine Pf V.out ?_;exact Vd
 | true =>
  rw[hv] at V;have lk:=lk (valid_small hs hv);clear hs;by_cases hd:id∈ls
  ·have R:=Pe (Jn0 (x:=(id,z,f,ch)) hv hd)
   rw[Pk hd] at lk;clear hv hd;go_enter func188,ntmps188;go_wp2_with fail;refine Pf V.out ?_;exact Vd
  ·rw[Pj hd] at lk
   have RF:=Pe (fun hf=>Jxs (x:=(id,z,f,ch)) hv hd hf);have RN:=Pe (fun hf=>Jsk (x:=(id,z,f,ch)) hv hd hf);clear hv hd;unfold farS at RF RN;simp only at RF RN;by_cases h1:z<0
   ·have R:=Pe (RF.out (.inl h1))
    clear RF RN;go_enter func188,ntmps188;go_wp2_with fail;refine Pf V.out ?_;exact Vd
   have d1:decide (z<0)=false:=Pj h1;by_cases h2:16<=z
   ·have R:=Pe (RF.out (.inr (.inl h2)))
    clear RF RN h1;go_enter func188,ntmps188;go_wp2_with fail;refine Pf V.out ?_;exact Vd
   have d2:decide (16<=z)=false:=Pj h2;by_cases h3:ch<0
   ·have R:=Pe (RF.out (.inr (.inr (.inl h3))))
    clear RF RN h1 h2;go_enter func188,ntmps188;go_wp2_with fail;refine Pf V.out ?_;exact Vd
   have d3:decide (ch<0)=false:=Pj h3;by_cases h4:3600<ch
   ·have R:=Pe (RF.out (.inr (.inr (.inr h4))))
    clear RF RN h1 h2 h3;go_enter func188,ntmps188;go_wp2_with fail;refine Pf V.out ?_;exact Vd
   have d4:decide (3600<ch)=false:=Pj h4;have R:=Pe (RN.out Ka);clear RF RN h1 h2 h3 h4;go_enter func188,ntmps188;go_wp2_with fail;refine Pf V.out ?_;exact Vd
theorem Jva{x:St}(h:badS seen x=0):Jak x.1=true:=by
 cases hv:Jak x.1 with
 | true=>rfl
 | false=>rw[Jlx hv] at h;cases h
theorem kcheck_all(v:Value)(l:List St)(hl:l.length<=9223372036854775807)(w:World)(h:LstS w v l):Pc 97 #[v] w (.tuple #[.int .i64 ((chkT l).1),.int .i64 ((chkT l).2)]):=by
 have H:=Pe h;obtain⟨A,c,rfl,-,-,-⟩:=h;by_cases h64:64<l.length
 ·have R:=Pe (chkT_many h64)
  have g:(64:Int)<(l.length:Int):=Ka;generalize chkT l=q at R |-;clear h64;go_enter func97,ntmps97;exact Vc
 have g:decide ((64:Int)<(l.length:Int))=false:=Q8;have ST:=Pe (chkT_start (l:=l) Ka);have h64':l.length<=64:=Ka;have hmm:=@run_makeMap prog;obtain⟨q,hq⟩:=Pi (chkT l);rw[hq];have HQ:=Pe hq;clear h64 hq;go_enter func97,ntmps97;go_wp2_with fail;go_loopw [14] (fun i wr=>∃k:Nat,i=.int .i64 k/\k<=l.length/\Hid (chkT l=chkF (idsS (l.take k)) k (l.drop k))/\Hid (MapB wr w.heap.size (idsS (l.take k)))/\Hid (Po w wr)) (fun i _=>l.length - (intOf i).toNat);case atStart=>exact⟨0,rfl,Nat.zero_le _,ST,Pe (MapB.made w),Pe ((Below.refl _ _).alloc Ph _)⟩
 case round =>
  clear g ST hmm;obtain⟨k,rfl,hk,hz,HM,HB⟩:=hrel;by_cases hlt:k<l.length
  ·obtain⟨⟨id,z,f,ch⟩,hx⟩:=Jah hlt
   obtain⟨nm,hnm⟩:=Pi (str id);obtain⟨b,o,rfl,hb,r0,r1,r2,r3⟩:=four_at (H.out.below HB.out) hx hnm;have gk:(k:Int)<(l.length:Int):=Ka;obtain⟨w7,hw7⟩:=Pi (wr.alloc (.cells #[.string nm,.int .i64 z,.bool f,.int .i64 ch] 112 (0,0)));obtain⟨b7,p0,p1,p2,p3,s7⟩:=J7d hw7;have B7:Hid (Po w w7):=HB.out.trans (b7.mono HB.out.size);have M7:=Pe (HM.out.below b7);have C:=Pe (Jxw id z f ch nm hnm w.heap.size (idsS (l.take k)) w7 M7.out);by_cases he:badS (idsS (l.take k)) (id,z,f,ch)=0
   ·have N:=Pe (Jn1 hz.out hx he)
    have T:=Pe (Jsj hx);have hil:(idsS (l.take k)).length<=64:=by rw[J86,List.length_take];omega
    have hid:Hid (nm.data.toList=id):=Vu;have hns:=valid_small hnm (Jva he);rw[he] at C;simp only at T;clear hx hz HB HM b7 hnm hb he;go_wp2_with fail;refine C.out.mono ?_;rintro e w8 ⟨rfl,b8⟩;have q0:=(b8.cell (p:=⟨wr.heap.size,0,none⟩) s7).trans p0;have B8:Hid (Po w w8):=B7.out.trans (b8.mono B7.out.size);have M8:=Pe (M7.out.below b8);clear b8 p0 p1 p2 p3 B7 M7 C;go_wp2_with (at_mapUpdate;refine Jgd _ rfl _ _ _ rfl w.heap.size (idsS (l.take k)) rfl M8.out nm id hid.out Ka rfl rfl Ka ?_;intro w9 m9 g9);have M:Hid (MapB w9 w.heap.size (idsS (l.take (k+1)))):=by
     show MapB _ _ _
     rw[T.out];exact m9
    have B:Hid (Po w w9):=B8.out.grown g9 B8.out.size (fun j hj=>Vh);clear m9 g9 M8 B8;go_wp2_with fail;go_roundw;case rel=>exact⟨k+1,Kj,Ka,N,M,B⟩
    case measure=>exact Q7
   ·have R:=Pe (Jgi hz.out hx rfl he)
    have ne:=Jaf he;generalize badS (idsS (l.take k)) (id,z,f,ch)=y at C R ne;clear hx hz HB HM b7 hnm hb he;go_wp2_with fail;refine C.out.mono ?_;rintro e w8 ⟨rfl,b8⟩;have B8:Hid (Po w w8):=B7.out.trans (b8.mono B7.out.size);clear b8 B7 C p0 p1 p2 p3;go_wp2_with fail;go_ret2;exact⟨ret_chk Vf Vf,B8.out⟩
  ·have R:=Pe (Jn2 hz.out Ka)
   have d:decide (k<l.length)=false:=Kg;exact Vt
theorem rfind_any(v:Value)(l:List St)(hl:l.length<=1099511627776)(id:List UInt8)(t:ByteArray)(ht:str id=t)(w:World)(h:LstS w v l):Pb 155 #[v,.string t] w (.int .i64 (fndT l id)):=by
 have H:=Pe h;have HT:=Pe ht;clear ht;obtain⟨A,c,rfl,-,-,-⟩:=h;obtain⟨r,hr⟩:=Pi (fndT l id);rw[hr];have HR:=Pe hr;clear hr;go_enter func155,ntmps155;go_wp2_with fail;go_loop [5] (fun i=>∃k:Nat,i=.int .i64 k/\k<=l.length/\Hid (fndT l id=fndF id k (l.drop k))) (fun i=>l.length - (intOf i).toNat);case atStart=>exact⟨0,rfl,Nat.zero_le _,Pe rfl⟩
 case round =>
  obtain⟨k,rfl,hk,hz⟩:=hrel;by_cases hlt:k<l.length
  ·obtain⟨⟨ix,z,f,ch⟩,hx⟩:=Jah hlt
   obtain⟨nm,hnm⟩:=Pi (str ix);obtain⟨b,o,rfl,hb,r0,r1,r2,r3⟩:=four_at H.out hx hnm;have gk:(k:Int)<(l.length:Int):=Ka;by_cases he:ix=id
   ·have g:=Jcn (a:=nm) (b:=t) Vx
    have R:Hid (r=(k:Int)):=by
     show _=_
     rw[<-HR.out,hz.out,J3k hx he]
    clear hx hz hnm hb he hlt HR HT;exact Vg
   ·have g:=Jcx (a:=nm) (b:=t) (str_ne hnm HT.out he)
    have N:Hid (fndT l id=fndF id (k+1) (l.drop (k+1))):=by
     show _=_
     rw[hz.out,Jxu hx he]
    clear hx hz hnm hb he;go_wp2_with fail;go_round;case rel=>exact⟨k+1,Kj,Ka,N⟩
    case measure=>exact Q7
  ·have R:Hid (r=-1):=by
    show _=_
    rw[<-HR.out,hz.out,J3l Ka]
   have d:decide (k<l.length)=false:=Kg;clear hz hlt HR HT;exact Vg
theorem Jvb(s:ByteArray)(hs:s.size<=1099511627776)(w:World):Pb 154 #[.string s] w (.bool (Jak s.data.toList)):=by
 by_cases h0:s.size=0
 ·have e:=Jep s h0
  have he:(s.size:Int)<1:=Ka;rw[e];clear e h0;go_enter func154,ntmps154;exact Kc
 have he:decide ((s.size:Int)<1)=false:=Q8;by_cases h3:32<s.size
 ·have e:=Jbo s h3
  have g:(32:Int)<(s.size:Int):=Ka;clear h0 h3;rw[e];go_enter func154,ntmps154;exact Kc
 have g:decide ((32:Int)<(s.size:Int))=false:=Kb;rw[Jge s Ka Ka];obtain⟨r,hr⟩:=Pi (s.data.toList.all idB);rw[hr];have HR:=Pe hr;clear hr;clear h0 h3;go_enter func154,ntmps154;go_wp2_with fail;go_loop [3] (fun i=>∃k:Nat,i=.int .i64 k/\k<=s.size/\Hid ((s.data.toList.take k).all idB=true)) (fun i=>s.size - (intOf i).toNat);case atStart=>exact⟨0,rfl,Nat.zero_le _,Pe rfl⟩
 case round =>
  clear he g;obtain⟨k,rfl,hk,ht⟩:=hrel;by_cases hlt:k<s.size
  ·obtain⟨c,hc⟩:=Jcq s k hlt
   have k1:=fun W=>Jby s k c hc k rfl W
   have hid:=Jlq c;generalize hn:(c.toNat:Int)=n at k1 hid;clear hn;unfold lttI digI sgnI at hid;rcases Jix n with h | rfl | rfl | rfl | h | h | h | h | rfl | rfl | h | h
   ·have T:=Pe (Jbc (p:=idB) hc Kp)
    have g0:decide ((65:Int)<=n)=false:=Q8;have g1:n<=90:=Ka;have g2:decide ((97:Int)<=n)=false:=Q8;have g3:n<=122:=Ka;have g4:decide ((48:Int)<=n)=false:=Q8;have g5:n<=57:=Ka;exact Vb
   ·have T:=Pe (Ja3 idB _ k c hc ht.out Kw)
    clear hc hid ht;go_wp2_with fail;go_round;case rel=>exact⟨k+1,Kj,Ka,T⟩
    case measure=>exact Q7
   ·have T:=Pe (Ja3 idB _ k c hc ht.out Kw)
    clear hc hid ht;go_wp2_with fail;go_round;case rel=>exact⟨k+1,Kj,Ka,T⟩
    case measure=>exact Q7
   ·have T:=Pe (Jbc (p:=idB) hc Kw)
    exact Qe
   ·have T:=Pe (Ja3 idB _ k c hc ht.out Kp)
    have g0:decide ((65:Int)<=n)=false:=Q8;have g1:n<=90:=Ka;have g2:decide ((97:Int)<=n)=false:=Q8;have g3:n<=122:=Ka;have g4:(48:Int)<=n:=Ka;have g5:n<=57:=Ka;have q0:(n==45)=false:=Jaa Ka;have q1:(n==95)=false:=Jaa Ka;have q2:(n==46)=false:=Jaa Ka;clear hc hid ht h;go_wp2_with fail;go_round;case rel=>exact⟨k+1,Kj,Ka,T⟩
    case measure=>exact Q7
   ·have T:=Pe (Jbc (p:=idB) hc Kp)
    have g0:decide ((65:Int)<=n)=false:=Q8;have g1:n<=90:=Ka;have g2:decide ((97:Int)<=n)=false:=Q8;have g3:n<=122:=Ka;have g4:(48:Int)<=n:=Ka;have g5:decide (n<=57)=false:=Q8;exact Vb
   ·have T:=Pe (Ja3 idB _ k c hc ht.out Kp)
    have g0:(65:Int)<=n:=Ka;have g1:n<=90:=Ka;have g2:decide ((97:Int)<=n)=false:=Q8;have g3:n<=122:=Ka;have g4:(48:Int)<=n:=Ka;have g5:decide (n<=57)=false:=Q8;have q0:(n==45)=false:=Jaa Ka;have q1:(n==95)=false:=Jaa Ka;have q2:(n==46)=false:=Jaa Ka;clear hc hid ht h;go_wp2_with fail;go_round;case rel=>exact⟨k+1,Kj,Ka,T⟩
    case measure=>exact Q7
   ·have T:=Pe (Jbc (p:=idB) hc Kp)
    have g0:(65:Int)<=n:=Ka;have g1:decide (n<=90)=false:=Q8;have g2:decide ((97:Int)<=n)=false:=Q8;have g3:n<=122:=Ka;have g4:(48:Int)<=n:=Ka;have g5:decide (n<=57)=false:=Q8;exact Vb
   ·have T:=Pe (Ja3 idB _ k c hc ht.out Kw)
    clear hc hid ht;go_wp2_with fail;go_round;case rel=>exact⟨k+1,Kj,Ka,T⟩
    case measure=>exact Q7
   ·have T:=Pe (Jbc (p:=idB) hc Kw)
    exact Qe
   ·have T:=Pe (Ja3 idB _ k c hc ht.out Kp)
    have g0:(65:Int)<=n:=Ka;have g1:decide (n<=90)=false:=Q8;have g2:(97:Int)<=n:=Ka;have g3:n<=122:=Ka;have g4:(48:Int)<=n:=Ka;have g5:decide (n<=57)=false:=Q8;have q0:(n==45)=false:=Jaa Ka;have q1:(n==95)=false:=Jaa Ka;have q2:(n==46)=false:=Jaa Ka;clear hc hid ht h;go_wp2_with fail;go_round;case rel=>exact⟨k+1,Kj,Ka,T⟩
    case measure=>exact Q7
   ·have T:=Pe (Jbc (p:=idB) hc Kp)
    have g0:(65:Int)<=n:=Ka;have g1:decide (n<=90)=false:=Q8;have g2:(97:Int)<=n:=Ka;have g3:decide (n<=122)=false:=Q8;have g4:(48:Int)<=n:=Ka;have g5:decide (n<=57)=false:=Q8;exact Vb
  ·have R:Hid (r=true):=by
    show _=_
    exact Kv
   have d:decide (k<s.size)=false:=Kg;clear hlt ht;exact Kf
theorem Jj0(s:ByteArray)(w:World):Pb 154 #[.string s] w (.bool (Jak s.data.toList)):=by
 by_cases hs:s.size<=1099511627776
 ·exact Jvb s hs w
 have e:=Jbo s Ka;have he:decide ((s.size:Int)<1)=false:=Q8;have g:(32:Int)<(s.size:Int):=Ka;clear hs;rw[e];go_enter func154,ntmps154;exact Kc
theorem rcheck_all(v:Value)(l:List St)(hl:l.length<=9223372036854775807)(w:World)(h:LstS w v l):Pb 68 #[v] w (.tuple #[.int .i64 ((chkT l).1),.int .i64 ((chkT l).2)]):=by
 have H:=Pe h;obtain⟨A,c,rfl,-,-,-⟩:=h;by_cases h64:64<l.length
 ·have R:=Pe (chkT_many h64)
  have g:(64:Int)<(l.length:Int):=Ka;generalize chkT l=q at R |-;clear h64;go_enter func68,ntmps68;go_wp2_with fail;go_ret2;exact⟨ret_chk Va Va,rfl⟩
 have g:decide ((64:Int)<(l.length:Int))=false:=Q8;have ST:=Pe (chkT_start (l:=l) Ka);have h64':l.length<=64:=Ka;obtain⟨q,hq⟩:=Pi (chkT l);rw[hq];have HQ:=Pe hq;clear h64 hq;go_enter func68,ntmps68;go_wp2_with fail;go_loop [4] (fun i=>∃k:Nat,i=.int .i64 k/\k<=l.length/\Hid (chkT l=chkF (idsS (l.take k)) k (l.drop k))) (fun i=>l.length - (intOf i).toNat);case atStart=>exact⟨0,rfl,Nat.zero_le _,ST⟩
 case round =>
  clear g ST;obtain⟨k,rfl,hk,hz⟩:=hrel;by_cases hlt:k<l.length
  ·obtain⟨⟨id,z,f,ch⟩,hx⟩:=Jah hlt
   obtain⟨nm,hnm⟩:=Pi (str id);have F:=Pe (rfind_any _ l Ka id nm hnm w H.out);obtain⟨b,o,rfl,hb,r0,r1,r2,r3⟩:=four_at H.out hx hnm;have gk:(k:Int)<(l.length:Int):=Ka;have hid:nm.data.toList=id:=Vs;have V:=Pe (Jj0 nm w);rw[hid] at V;have FL:=J88 hx;simp only at FL;generalize fndT l id=p at F FL;cases hv:Jak id with
   | false =>
    have R:=Pe (Jgi hz.out hx (Jlx (seen:=idsS (l.take k)) (x:=(id,z,f,ch)) hv) Kd);rw[hv] at V;clear hx hz hnm hb hid hv FL F;go_wp2_with fail;refine Pf V.out ?_;exact Ve
   | true =>
    rw[hv] at V;by_cases hd:id∈idsS (l.take k)
    ·have R:=Pe (Jgi hz.out hx (Jn0 (x:=(id,z,f,ch)) hv hd) Kd)
     have fl:=FL.2 hd;clear hx hz hnm hb hid hv FL hd;go_wp2_with fail;refine Pf V.out ?_;go_wp2_with fail;refine Pf F.out ?_;exact Ve
    ·have fl:decide (p<(k:Int))=false:=Pj fun e=>hd (FL.1 e)
     have RF:=Pe (fun hf=>Jgi hz.out hx (Jxs (x:=(id,z,f,ch)) hv hd hf) Kd);have RN:=Pe (fun hf=>Jn1 hz.out hx (Jsk (x:=(id,z,f,ch)) hv hd hf));unfold farS at RF RN;simp only at RF RN;clear hx hz hnm hb hid hv FL hd;go_wp2_with fail;refine Pf V.out ?_;go_wp2_with fail;refine Pf F.out ?_;clear V F;by_cases h1:z<0
     ·have R:=Pe (RF.out (.inl h1))
      clear RF RN;exact Ve
     have d1:decide (z<0)=false:=Pj h1;by_cases h2:16<=z
     ·have R:=Pe (RF.out (.inr (.inl h2)))
      clear RF RN h1;exact Ve
     have d2:decide (16<=z)=false:=Pj h2;by_cases h3:ch<0
     ·have R:=Pe (RF.out (.inr (.inr (.inl h3))))
      clear RF RN h1 h2;exact Ve
     have d3:decide (ch<0)=false:=Pj h3;by_cases h4:3600<ch
     ·have R:=Pe (RF.out (.inr (.inr (.inr h4))))
      clear RF RN h1 h2 h3;exact Ve
     have d4:decide (3600<ch)=false:=Pj h4;have N:=Pe (RN.out Ka);clear RF RN h1 h2 h3 h4;go_wp2_with fail;go_round;case rel=>exact⟨k+1,Kj,Ka,N⟩
     case measure=>exact Q7
  ·have R:=Pe (Jn2 hz.out Ka)
   have d:decide (k<l.length)=false:=Kg;clear hz hlt;exact Ve
open Go.RowKit Go.ChangeShapes Go.WideShapes Go.Deep
theorem trod_stop{H:Type}{enc:TypeId×Value->H}{W:World}{n:Nat}{cs:List Value}{x:DataW H×List MemPlace}(h:DataW.trod enc prog W 0 (fun _=>true) true n 112 cs=some x):∃a:St,((-9223372036854775808<=a.2.1/\a.2.1<=9223372036854775807)/\-9223372036854775808<=a.2.2.2/\a.2.2.2<=9223372036854775807)/\cs=se a:=by
 obtain⟨y0,y1,y2,y3,n,_,hl,h0,h1,h2,h3⟩:=Go.Joins.trod_struct4 underlying112 h;rw[show prog.cellsOf 112=4 by kernel_rfl] at hl;match cs,hl with
 | [c0,c1,c2,c3],_ =>
  simp only[show prog.cellsOf 9=1 by kernel_rfl,show prog.cellsOf 3=1 by kernel_rfl,show prog.cellsOf 4=1 by kernel_rfl] at h0 h1 h2 h3;obtain⟨s,e0,-⟩:=DataW.trod_string underlying9 h0;obtain⟨z,e1,_,w1⟩:=DataW.trod_int underlying3 h1;obtain⟨f,e2,-⟩:=DataW.trod_bool underlying4 h2;obtain⟨c,e3,_,w3⟩:=DataW.trod_int underlying3 h3;simp at e0 e1 e2 e3;subst e0 e1 e2 e3;refine⟨(s.data.toList,z,f,c),⟨⟨Jb0 w1,Jbz w1⟩,Jb0 w3,Jbz w3⟩,?_⟩;unfold se;rw[Jaw]
end S13
end Go.Proofs.YtpifdbphmnifdaaGreatDoor
