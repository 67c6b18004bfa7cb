/-
  Facts of the proof. Condition: each theorem's own.
-/
import Derived.Stop.LaidErr
import Derived.Test.YtpifdbphmnifdaaGreatDoorYI25
set_option maxRecDepth 100000
set_option maxHeartbeats 8000000
open Go.Proofs.Tryz
namespace Go.Proofs.YtpifdbphmnifdaaGreatDoor
section
open Go Go.RowKit Go.ChangeShapes Go.WideShapes Go.Deep
theorem Jq2:"*"++"errors.errorString"="*errors.errorString":=by decide
theorem J8u (u:TypeId) (h:prog.typeName? 3 u=some "*errors.errorString"):u=330 :=
 typeName_ptr_named (nm:="errors.errorString") (by rw [Jq2];kernel_rfl) (by kernel_rfl) (by decide) u (by rw [Jq2];exact h)
theorem Jkr {H:Type} {enc:TypeId×Value→H} {W:World} {base:Nat} {sp:Nat→Bool} {held:Bool} {fuel:Nat} {t e:TypeId} {n:Nat} {cs:List Value} {ls:List (List UInt8)} {p:List MemPlace}
  (ht:prog.underlying t=some (.array n e)) (he:prog.underlying e=some .string) (hce:prog.cellsOf e=1) (hct:prog.cellsOf t=n)
  (h:DataW.trod enc prog W base sp held fuel t cs=some (.agg (ls.map fun l=>(.lit (.string l):DataW H)),p)):cs=ls.map fun l=>Value.string (str l):=by
 cases fuel with
 | zero=>simp [DataW.trod] at h
 | succ fuel =>
  simp only [DataW.trod,ht,hce,hct,Nat.mul_one] at h;split at h
  ·next hl =>
   obtain⟨xs,hm,hx⟩:=Option.map_eq_some_iff.1 h;have hxs:xs.map (·.1)=ls.map fun l=>(DataW.lit (.string l):DataW H):=by
    have:=congrArg Prod.fst hx;simpa using this
   have hxl:xs.length=n:=by simpa using Lib.mapM_length hm
   have hzl:ls.length=n:=by
    have:=congrArg List.length hxs;simp at this;omega
   apply List.ext_getElem?
   intro i;by_cases hi:i<n
   ·obtain⟨b,hb,hf⟩:=Lib.mapM_at hm i i (by simp [hi])
    obtain⟨s,hc,rfl,-⟩:=DataW.trod_string he hf;have h1:cs[i]?=some (.string s):=by
     have:=congrArg (·[0]?) hc;simpa [List.getElem?_take,List.getElem?_drop] using this
    have h2:(xs.map (·.1))[i]?=some (DataW.lit (.string s.data.toList):DataW H):=by simp [hb]
    rw [hxs] at h2;simp only [List.getElem?_map,Option.map_eq_some_iff,DataW.lit.injEq,Lit.string.injEq] at h2;obtain⟨l,hl2,rfl⟩:=h2;simp [h1,hl2,Jay]
   ·rw [List.getElem?_eq_none (by omega),List.getElem?_eq_none (by simp;omega)]
  ·cases h
theorem Jgq {W:World} {nm:String} {d:DataW Unit} {r:List (String×DataW Unit)} {g:Nat} {t:TypeId} {n:Nat} {ls:List Bs} (hd0:d=.agg (ls.map fun l=>.lit (.string l))) (hg:prog.globalNamed nm=some g) (ht:(prog.globals[g]?).map (·.type)=some t)
  (hu:prog.underlying t=some (.array n 9)) (hct:prog.cellsOf t=n) (h:laidMet prog ((nm,d)::r) W):W.var? prog nm=some (ls.map fun k=>Value.string (str k)).toArray:=by
 subst hd0;obtain⟨ps,⟨g',t',cs,fuel,p,q,hg',ht',hvar,hd,_,_⟩,_⟩:=h;obtain rfl:=Option.some.inj (hg.symm.trans hg');obtain rfl:=Option.some.inj (ht.symm.trans ht');have e:=Jkr (ls:=ls) hu underlying9 (by kernel_rfl) hct hd;rw [hvar,show cs=(ls.map fun k=>Value.string (str k)).toArray from Array.toList_inj.1 (by rw [e])]
theorem Jmw {W:World} (h:laidMet prog [("math/bits.deBruijn32tab",Rows.laid_math_bits_deBruijn32tab),("math/bits.deBruijn64tab",Rows.laid_math_bits_deBruijn64tab),("internal/strconv.uint64pow10",Rows.laid_internal_strconv_uint64pow10),("unicode/utf8.acceptRanges",Rows.laid_unicode_utf8_acceptRanges),("strconv.ErrRange",Rows.laid_strconv_ErrRange),("strconv.ErrSyntax",Rows.laid_strconv_ErrSyntax),("transit/date.monthLengths",Rows.laid_transit_date_monthLengths),("transit/route.names",Rows.laid_transit_route_names),("transit/feed.kinds",Rows.laid_transit_feed_kinds),("unicode/utf8.first",Rows.laid_unicode_utf8_first)] W):Jcq W:=by
 have h2:=h.tail;have h3:=h2.tail;have h5:=h3.tail.tail;have h7:=h5.tail.tail;have h8:=h7.tail;have h9:=h8.tail;obtain⟨a,_,hv,_⟩:=laid_sentinel h5 S3.gRange (by kernel_rfl) underlying220 J8u underlying330 underlying332 rfl rfl underlying9 (by kernel_rfl) (by kernel_rfl);exact⟨⟨Lib.tabIs_of_head (k:=.i64) (zs:=S2.lens) (t:=295) (e:=3) (n:=12) S2.gLens (by kernel_rfl) (by kernel_rfl) (by kernel_rfl) (by kernel_rfl) (by kernel_rfl) h7,
  Lib.tabIs_of_head (k:=.u64) (zs:=Lib.pow10Tab) (t:=328) (e:=225) (n:=20) S2.gPow (by kernel_rfl) (by kernel_rfl) (by kernel_rfl) (by kernel_rfl) (by kernel_rfl) h3⟩,⟨_,_,hv⟩,
  ⟨Lib.tabIs_of_head (k:=.u8) (zs:=Juc) (t:=297) (e:=5) (n:=64) gTab (by kernel_rfl) (by kernel_rfl) (by kernel_rfl) (by kernel_rfl) (by kernel_rfl) h2,Jgq (ls:=nmL) (t:=227) (n:=8) rfl S15.gNames (by kernel_rfl) underlying227 (by kernel_rfl) h8⟩,
  Jgq (ls:=kinds.take 10) (t:=105) (n:=10) rfl Jqn (by kernel_rfl) underlying105 (by kernel_rfl) h9⟩
end
end Go.Proofs.YtpifdbphmnifdaaGreatDoor
