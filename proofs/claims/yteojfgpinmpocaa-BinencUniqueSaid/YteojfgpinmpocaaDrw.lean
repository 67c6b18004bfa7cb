/-
  Regions that draw their order, walked by hand: the condition on the worlds is made stronger behind each call, so that what a call hands back can be read at once. Condition: none beyond each theorem's own hypotheses.
-/
import Derived.Test.YteojfgpinmpocaaCpy
namespace Go.Proofs.Yteojfgpinmpocaa
open Go.RowKit

/-- A stronger condition serves. -/
theorem wpAnyH_mono {P : Program} {md : Region.Mode} {ops : Array Oper} {Q : Exit → Act → World → Prop} {S S' : World → Prop} (h : ∀ w, S' w → S w) : ∀ (fuel : Nat) (listed : Array Bool) (a : Act) (w : World), wpAnyH P md ops Q S' fuel listed a w → wpAnyH P md ops Q S fuel listed a w
  | 0, _, _, _, H => H
  | fuel + 1, _, _, _, H => ⟨H.1, fun i hi => wpOp_mono (fun a' w' h' => ⟨h _ h'.1, wpAnyH_mono h fuel _ a' w' h'.2⟩) (H.2 i hi)⟩
/-- Behind a call: from here on the worlds are those that come behind this one. -/
theorem wpAnyH_behind {P : Program} {md : Region.Mode} {ops : Array Oper} {Q : Exit → Act → World → Prop} {w0 : World} {fuel : Nat} {listed : Array Bool} {a : Act} {w : World} (hb : Below w0.heap.size w0 w) (H : wpAnyH P md ops Q (fun W => Below w.heap.size w W) fuel listed a w) : wpAnyH P md ops Q (fun W => Below w0.heap.size w0 W) fuel listed a w :=
  wpAnyH_mono (fun _ hW => hb.trans (hW.mono hb.size)) fuel listed a w H
/-- Take number i first, its slot named. -/
theorem takeH {P : Program} {md : Region.Mode} {ops : Array Oper} {Q : Exit → Act → World → Prop} {S : World → Prop} {i : Nat} {oi : Oper} {v : Value} {fuel : Nat} {listed : Array Bool} {a : Act} {w : World} (d : Nat) (hi : ops[i]? = some oi) (hd : oi.dst = some d)
    (hs : Region.noSelect ops = true) (hf : Region.free md ops listed i = true) (hr : (Region.ready md ops listed).contains i = true)
    (hQ : ∀ c a w, Q (.panic c) (a.put (some d) v) w → Q (.panic c) a w) (hy : YieldsIf P ops S oi v a) (hS : S w)
    (h : wpAnyH P md ops Q S fuel (listed.setIfInBounds i true) (a.put (some d) v) w) : wpAnyH P md ops Q S (fuel + 1) listed a w :=
  wpAnyH_take hi hs hf hr (by rw [hd]; exact hQ) hy hS (by rw [hd]; exact h)
theorem bel_on {w W W' : World} (hb : Below w.heap.size w W) (b : Below W.heap.size W W') : Below w.heap.size w W' := hb.trans (b.mono hb.size)
theorem own_on {w w' : World} {base : Nat} {v : Value} {l : List UInt8} (hb : Below w.heap.size w w') (h : OwnB w base v l) : OwnB w' base v l := h.below hb
theorem conv_lit {w : World} {base : Nat} {v : Value} {l : List UInt8} {s : ByteArray} (h : OwnB w base v l) (hs : str l = s) : (convert 23 9 v).run Try.prog w = .ok (.string s) w := by rw [← hs]; exact own_conv h
theorem conv_of {w : World} {v : Value} {l : List UInt8} {s : ByteArray} (h : LstB w v l) (hs : str l = s) : (convert 23 9 v).run Try.prog w = .ok (.string s) w := by rw [← hs]; exact h.conv
end Go.Proofs.Yteojfgpinmpocaa
