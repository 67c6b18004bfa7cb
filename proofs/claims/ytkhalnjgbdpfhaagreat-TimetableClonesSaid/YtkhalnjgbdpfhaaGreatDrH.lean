/-
  Regions that draw their order, walked by hand: the condition on the worlds is made stronger behind each call; two operations that may come up in either order, told in one way. Condition: none beyond each theorem's own hypotheses.
-/
import Derived.Test.YtkhalnjgbdpfhaaGreatShA
import Derived.Deep.RegionHeld
namespace Go.Proofs.YtkhalnjgbdpfhaaGreat
open Go.RowKit

/-- A stronger condition serves. -/
theorem wpAnyH_mono {P : Program} {md : Region.Mode} {ops : Array Oper} {Q : Exit → Act → World → Prop} {S S' : World → Prop} (h : ∀ w, S' w → S w) : ∀ (fuel : Nat) (listed : Array Bool) (a : Act) (w : World), wpAnyH P md ops Q S' fuel listed a w → wpAnyH P md ops Q S fuel listed a w
  | 0, _, _, _, H => H
  | fuel + 1, _, _, _, H => ⟨H.1, fun i hi => wpOp_mono (fun a' w' h' => ⟨h _ h'.1, wpAnyH_mono h fuel _ a' w' h'.2⟩) (H.2 i hi)⟩
/-- Behind a call: from here on the worlds are those that come behind this one. -/
theorem wpAnyH_behind {P : Program} {md : Region.Mode} {ops : Array Oper} {Q : Exit → Act → World → Prop} {w0 : World} {fuel : Nat} {listed : Array Bool} {a : Act} {w : World} (hb : Below w0.heap.size w0 w) (H : wpAnyH P md ops Q (fun W => Below w.heap.size w W) fuel listed a w) : wpAnyH P md ops Q (fun W => Below w0.heap.size w0 W) fuel listed a w :=
  wpAnyH_mono (fun _ hW => hb.trans (hW.mono hb.size)) fuel listed a w H
/-- Take number i first, its slot named. -/
theorem takeH {P : Program} {md : Region.Mode} {ops : Array Oper} {Q : Exit → Act → World → Prop} {S : World → Prop} {i : Nat} {oi : Oper} {v : Value} {fuel : Nat} {listed : Array Bool} {a : Act} {w : World} (d : Nat) (hi : ops[i]? = some oi) (hd : oi.dst = some d)
    (hs : Region.noSelect ops = true) (hf : Region.free md ops listed i = true) (hr : (Region.ready md ops listed).contains i = true)
    (hQ : ∀ c a w, Q (.panic c) (a.put (some d) v) w → Q (.panic c) a w) (hy : YieldsIf P ops S oi v a) (hS : S w)
    (h : wpAnyH P md ops Q S fuel (listed.setIfInBounds i true) (a.put (some d) v) w) : wpAnyH P md ops Q S (fuel + 1) listed a w :=
  wpAnyH_take hi hs hf hr (by rw [hd]; exact hQ) hy hS (by rw [hd]; exact h)
theorem bel_on {w W W' : World} (hb : Below w.heap.size w W) (b : Below W.heap.size W W') : Below w.heap.size w W' := hb.trans (b.mono hb.size)
/-- Which have come up, written out. -/
theorem listedH {P : Program} {md : Region.Mode} {ops : Array Oper} {Q : Exit → Act → World → Prop} {S : World → Prop} {fuel : Nat} {listed l : Array Bool} {a : Act} {w : World} (h : listed = l) (H : wpAnyH P md ops Q S fuel l a w) : wpAnyH P md ops Q S fuel listed a w := h ▸ H
/-- Take number i first: its three closed facts in one. -/
theorem takeX {P : Program} {md : Region.Mode} {ops : Array Oper} {Q : Exit → Act → World → Prop} {S : World → Prop} {i : Nat} {oi : Oper} {v : Value} {fuel : Nat} {listed : Array Bool} {a : Act} {w : World} (d : Nat) (hi : ops[i]? = some oi) (hd : oi.dst = some d)
    (hc : (Region.noSelect ops && Region.free md ops listed i && (Region.ready md ops listed).contains i) = true)
    (hQ : ∀ c a w, Q (.panic c) (a.put (some d) v) w → Q (.panic c) a w) (hy : YieldsIf P ops S oi v a) (hS : S w)
    (h : wpAnyH P md ops Q S fuel (listed.setIfInBounds i true) (a.put (some d) v) w) : wpAnyH P md ops Q S (fuel + 1) listed a w := by
  rw [Bool.and_eq_true, Bool.and_eq_true] at hc
  exact takeH d hi hd hc.1.1 hc.1.2 hc.2 hQ hy hS h
/-- The one operation that may come up. -/
theorem oneH {P : Program} {md : Region.Mode} {ops : Array Oper} {Q : Exit → Act → World → Prop} {S : World → Prop} {i : Nat} {oi : Oper} {fuel : Nat} {listed : Array Bool} {a : Act} {w : World} (hr : Region.ready md ops listed = [i]) (hi : ops[i]? = some oi) (wi : Region.wanted oi (yielded ops a.tmps) = true)
    (h : ∀ K : Act → World → Prop, Shut (∀ a w, S w → (S w → wpAnyH P md ops Q S fuel (listed.setIfInBounds i true) a w) → K a w) → Oper.wp P oi a w K Q) : wpAnyH P md ops Q S (fuel + 1) listed a w :=
  wpAnyH_ready hr (by simp) (AllReadyH.cons hi (fun K hK => by rw [if_pos wi]; exact h K hK) AllReadyH.nil)
/-- Two operations that may come up in either order: what is known of the two values in the world behind both serves for what follows, which is walked once. -/
theorem wpAnyH_two {P : Program} {md : Region.Mode} {ops : Array Oper} {Q : Exit → Act → World → Prop} {S : World → Prop} {i j : Nat} {oi oj : Oper} {fuel : Nat} {listed : Array Bool} {a : Act} {w : World} (di dj : Nat)
    (hr : Region.ready md ops listed = [i, j]) (hri : Region.ready md ops (listed.setIfInBounds i true) = [j]) (hrj : Region.ready md ops (listed.setIfInBounds j true) = [i]) (hij : i ≠ j) (hi : ops[i]? = some oi) (hj : ops[j]? = some oj)
    (wi : Region.wanted oi (yielded ops a.tmps) = true) (wj : Region.wanted oj (yielded ops a.tmps) = true) (wi' : ∀ q, Region.wanted oi (yielded ops (a.put (some dj) q).tmps) = true) (wj' : ∀ u, Region.wanted oj (yielded ops (a.put (some di) u).tmps) = true) (hd : di ≠ dj)
    (R : World → Value → Value → Prop) (Ri Rj : World → Value → Prop)
    (c1 : ∀ K : Act → World → Prop, Shut (∀ a' u W', a' = a.put (some di) u → S W' → Ri W' u → K a' W') → Oper.wp P oi a w K Q)
    (c2 : ∀ u W, S W → Ri W u → ∀ K : Act → World → Prop, Shut (∀ a' q W', a' = (a.put (some di) u).put (some dj) q → S W' → R W' u q → K a' W') → Oper.wp P oj (a.put (some di) u) W K Q)
    (c3 : ∀ K : Act → World → Prop, Shut (∀ a' q W', a' = a.put (some dj) q → S W' → Rj W' q → K a' W') → Oper.wp P oj a w K Q)
    (c4 : ∀ q W, S W → Rj W q → ∀ K : Act → World → Prop, Shut (∀ a' u W', a' = (a.put (some dj) q).put (some di) u → S W' → R W' u q → K a' W') → Oper.wp P oi (a.put (some dj) q) W K Q)
    (rest : ∀ u q W, S W → R W u q → wpAnyH P md ops Q S fuel ((listed.setIfInBounds i true).setIfInBounds j true) ((a.put (some di) u).put (some dj) q) W) : wpAnyH P md ops Q S (fuel + 1 + 1) listed a w := by
  refine wpAnyH_ready hr (by simp) (AllReadyH.cons hi (fun K hK => ?_) (AllReadyH.cons hj (fun K hK => ?_) AllReadyH.nil))
  · rw [if_pos wi]
    refine c1 K (fun a' u W ha hS hR => hK.out _ _ hS fun _ => ?_)
    subst ha
    refine wpAnyH_ready hri (by simp) (AllReadyH.cons hj (fun K' hK' => ?_) AllReadyH.nil)
    rw [if_pos (wj' u)]
    exact c2 u W hS hR K' (fun a' q W' ha hS' hR' => hK'.out _ _ hS' fun _ => by rw [ha]; exact rest u q W' hS' hR')
  · rw [if_pos wj]
    refine c3 K (fun a' q W ha hS hR => hK.out _ _ hS fun _ => ?_)
    subst ha
    refine wpAnyH_ready hrj (by simp) (AllReadyH.cons hi (fun K' hK' => ?_) AllReadyH.nil)
    rw [if_pos (wi' q)]
    refine c4 q W hS hR K' (fun a' u W' ha hS' hR' => hK'.out _ _ hS' fun _ => ?_)
    rw [ha, Act.put_comm a q u (fun d h e => hd (by cases h; cases e; rfl)), Array.setIfInBounds_comm _ _ (Ne.symm hij)]
    exact rest u q W' hS' hR'
/-! ### The order of a region read off a small table -/
/-- What the order hangs on: what an operation waits for, the slot that it writes, the slots that it looks at. -/
abbrev Sk := List Nat × Option Nat × List Nat
def skO (md : Region.Mode) (ops : Array Oper) (o : Oper) : Sk := ((o.after.toList.filter (Region.binds md)).map (·.on), o.dst, o.looksAt ops)
/-- The table of a region. -/
def sk (md : Region.Mode) (ops : Array Oper) : List Sk := ops.toList.map (skO md ops)
def readyT (T : List Sk) (l : List Bool) : List Nat := (List.range T.length).filter fun i => !l.getD i true && ((T[i]?).map fun t => t.1.all fun e => l.getD e false).getD false
def apartT (x y : Sk) : Bool := (match x.2.1 with | some d => !y.2.2.contains d && y.2.1 != some d | none => true) && (match y.2.1 with | some d => !x.2.2.contains d | none => true)
def freeT (T : List Sk) (l : List Bool) (i : Nat) : Bool :=
  match T[i]? with
  | none => false
  | some ti => (List.range T.length).all fun j => j == i || l.getD j true || match T[j]? with
      | some tj => tj.1.contains i || apartT ti tj
      | none => true
theorem sk_at (md : Region.Mode) (ops : Array Oper) (i : Nat) : (sk md ops)[i]? = (ops[i]?).map (skO md ops) := by
  unfold sk
  rw [List.getElem?_map, Array.getElem?_toList]
theorem sk_len (md : Region.Mode) (ops : Array Oper) : (sk md ops).length = ops.size := by unfold sk; rw [List.length_map, Array.length_toList]
theorem getD_list (l : List Bool) (i : Nat) (b : Bool) : l.toArray.getD i b = l.getD i b := by simp [Array.getD_eq_getD_getElem?, List.getD_eq_getElem?_getD]
theorem ready_sk (md : Region.Mode) (ops : Array Oper) (l : List Bool) : Region.ready md ops l.toArray = readyT (sk md ops) l := by
  unfold Region.ready readyT
  rw [sk_len]
  congr 1
  funext i
  rw [sk_at, getD_list]
  congr 1
  cases ops[i]? with
  | none => rfl
  | some o =>
    show (o.after.all fun e => !Region.binds md e || l.toArray.getD e.on false) = ((o.after.toList.filter (Region.binds md)).map (·.on)).all fun e => l.getD e false
    rw [Bool.eq_iff_iff, Array.all_eq_true_iff_forall_mem, List.all_eq_true]
    simp only [List.mem_map, List.mem_filter, Array.mem_toList_iff, Bool.or_eq_true, Bool.not_eq_true', getD_list]
    constructor
    · rintro h _ ⟨e, ⟨he, hb⟩, rfl⟩
      rcases h e he with h1 | h1
      · rw [hb] at h1; cases h1
      · exact h1
    · intro h e he
      cases hb : Region.binds md e with
      | false => exact .inl rfl
      | true => exact .inr (h _ ⟨e, ⟨he, hb⟩, rfl⟩)
theorem free_sk {md : Region.Mode} {ops : Array Oper} {l : List Bool} {i : Nat} (h : freeT (sk md ops) l i = true) : Region.free md ops l.toArray i = true := by
  unfold freeT at h
  rw [sk_at, sk_len] at h
  unfold Region.free
  cases hi : ops[i]? with
  | none => rw [hi] at h; exact h
  | some oi =>
    rw [hi] at h
    simp only [Option.map_some] at h
    simp only
    rw [List.all_eq_true] at h ⊢
    intro j hj
    have h1 := h j hj
    rw [getD_list]
    rw [sk_at] at h1
    cases hoj : ops[j]? with
    | none => simp
    | some oj =>
      rw [hoj] at h1
      simp only [Option.map_some] at h1
      rw [Bool.or_eq_true] at h1 ⊢
      rcases h1 with h1 | h1
      · exact .inl h1
      · right
        simp only
        rw [Bool.or_eq_true] at h1 ⊢
        rcases h1 with h1 | h1
        · left
          unfold skO at h1
          rw [List.contains_iff_mem] at h1
          obtain ⟨e, he, hon⟩ := List.mem_map.1 h1
          obtain ⟨he1, he2⟩ := List.mem_filter.1 he
          rw [Array.any_eq_true']
          exact ⟨e, Array.mem_toList_iff.1 he1, by rw [he2, hon]; simp⟩
        · right
          exact h1
/-- Which have come up: the bits of a number. -/
def bitsL (N m : Nat) : List Bool := (List.range N).map fun j => m.testBit j
/-- 'wpAnyH' with the table beside it. -/
def wpT (P : Program) (md : Region.Mode) (ops : Array Oper) (Q : Exit → Act → World → Prop) (S : World → Prop) (T : List Sk) (fuel : Nat) (l : List Bool) (a : Act) (w : World) : Prop := sk md ops = T → Region.noSelect ops = true → wpAnyH P md ops Q S fuel l.toArray a w
section
variable {P : Program} {md : Region.Mode} {ops : Array Oper} {Q : Exit → Act → World → Prop} {S : World → Prop} {T : List Sk} {fuel : Nat} {l : List Bool} {a : Act} {w : World}
theorem startT {id : Nat} (T : List Sk) (N : Nat) (hT : sk .any ops = T) (hsel : Region.noSelect ops = true) (hN : ops.size = N) (hm : P.follows .mixedOrders = true) (l : List Bool) (hl : List.replicate N false = l) (hS : S w.drew) (h : S w.drew → wpT P .any ops Q S T N l a w.drew) : (Code.region id ops true).wp P Q a w :=
  wp_region_held_drew hm hS fun h0 => by
    have := h h0 hT hsel
    subst hN
    subst hl
    rw [List.toArray_replicate] at this
    exact this
theorem behindT {w0 : World} (hb : Below w0.heap.size w0 w) (H : wpT P md ops Q (fun W => Below w.heap.size w W) T fuel l a w) : wpT P md ops Q (fun W => Below w0.heap.size w0 W) T fuel l a w := fun h1 h2 => wpAnyH_behind hb (H h1 h2)
theorem set_list (l : List Bool) (i : Nat) : l.toArray.setIfInBounds i true = (l.set i true).toArray := by rw [List.setIfInBounds_toArray]
/-- Take number i first. -/
theorem takeT {i : Nat} {oi : Oper} {v : Value} {a' : Act} (d : Nat) (l' : List Bool) (hl : l.set i true = l') (hi : ops[i]? = some oi) (hd : oi.dst = some d) (hc : (freeT T l i && (readyT T l).contains i) = true)
    (hQ : ∀ c a w, Q (.panic c) (a.put (some d) v) w → Q (.panic c) a w) (hy : YieldsIf P ops S oi v a) (hS : S w) (ha : a.put (some d) v = a')
    (h : wpT P md ops Q S T fuel l' a' w) : wpT P md ops Q S T (fuel + 1) l a w := fun h1 h2 => by
  rw [Bool.and_eq_true] at hc
  subst ha
  subst hl
  refine takeH d hi hd h2 (free_sk (by rw [h1]; exact hc.1)) (by rw [ready_sk, h1]; exact hc.2) hQ hy hS ?_
  rw [set_list]
  exact h h1 h2
/-- The one operation that may come up. -/
theorem oneT {i : Nat} {oi : Oper} (l' : List Bool) (hl : l.set i true = l') (hr : readyT T l = [i]) (hi : ops[i]? = some oi) (wi : Region.wanted oi (yielded ops a.tmps) = true)
    (h : ∀ K : Act → World → Prop, Shut (∀ a w, S w → (S w → wpT P md ops Q S T fuel l' a w) → K a w) → Oper.wp P oi a w K Q) : wpT P md ops Q S T (fuel + 1) l a w := fun h1 h2 => by
  subst hl
  refine oneH (by rw [ready_sk, h1]; exact hr) hi wi fun K hK => h K fun a w hS hW => hK.out a w hS fun hS => ?_
  rw [set_list]
  exact hW hS h1 h2
/-- Two that may come up in either order. -/
theorem twoT {i j : Nat} {oi oj : Oper} (di dj : Nat) (l' : List Bool) (hl : (l.set i true).set j true = l') (hr : readyT T l = [i, j]) (hri : readyT T (l.set i true) = [j]) (hrj : readyT T (l.set j true) = [i]) (hij : i ≠ j) (hi : ops[i]? = some oi) (hj : ops[j]? = some oj)
    (wi : Region.wanted oi (yielded ops a.tmps) = true) (wj : Region.wanted oj (yielded ops a.tmps) = true) (wi' : ∀ q, Region.wanted oi (yielded ops (a.put (some dj) q).tmps) = true) (wj' : ∀ u, Region.wanted oj (yielded ops (a.put (some di) u).tmps) = true) (hd : di ≠ dj)
    (R : World → Value → Value → Prop) (Ri Rj : World → Value → Prop)
    (c1 : ∀ K : Act → World → Prop, Shut (∀ a' u W', a' = a.put (some di) u → S W' → Ri W' u → K a' W') → Oper.wp P oi a w K Q)
    (c2 : ∀ u W, S W → Ri W u → ∀ K : Act → World → Prop, Shut (∀ a' q W', a' = (a.put (some di) u).put (some dj) q → S W' → R W' u q → K a' W') → Oper.wp P oj (a.put (some di) u) W K Q)
    (c3 : ∀ K : Act → World → Prop, Shut (∀ a' q W', a' = a.put (some dj) q → S W' → Rj W' q → K a' W') → Oper.wp P oj a w K Q)
    (c4 : ∀ q W, S W → Rj W q → ∀ K : Act → World → Prop, Shut (∀ a' u W', a' = (a.put (some dj) q).put (some di) u → S W' → R W' u q → K a' W') → Oper.wp P oi (a.put (some dj) q) W K Q)
    (rest : ∀ u q W, S W → R W u q → wpT P md ops Q S T fuel l' ((a.put (some di) u).put (some dj) q) W) : wpT P md ops Q S T (fuel + 1 + 1) l a w := fun h1 h2 => by
  subst hl
  refine wpAnyH_two di dj (by rw [ready_sk, h1]; exact hr) (by rw [set_list, ready_sk, h1]; exact hri) (by rw [set_list, ready_sk, h1]; exact hrj) hij hi hj wi wj wi' wj' hd R Ri Rj c1 c2 c3 c4 fun u q W hS hR => ?_
  rw [set_list, set_list]
  exact rest u q W hS hR h1 h2
/-- The frame said anew. -/
theorem actT {a' : Act} (ha : a = a') (h : wpT P md ops Q S T fuel l a' w) : wpT P md ops Q S T fuel l a w := ha ▸ h
/-- An operation that enters a function, by its contract. -/
theorem operC {oi : Oper} {f : FuncId} {vals : Array Value} {K : Act → World → Prop} {R : Value → World → Prop} (d : Nat) (hd : oi.dst = some d) (hrun : (execOp a.eval oi).run P w = .ok (.enter f vals) w)
    (C : Calls P f vals w fun e w' => ∃ u, e = .returned u ∧ R u w') (h : ∀ u w', R u w' → K (a.put (some d) u) w') : Oper.wp P oi a w K Q := by
  unfold Oper.wp
  rw [hrun, Oper.upon_enter]
  refine C.mono fun e w' hh => ?_
  obtain ⟨u, rfl, hR⟩ := hh
  rw [hd]
  exact h u w' hR
/-- An operation that leaves a value and a world. -/
theorem operV {oi : Oper} {v : Value} {w' : World} {K : Act → World → Prop} (d : Nat) (hd : oi.dst = some d) (hrun : (execOp a.eval oi).run P w = .ok (.value v) w') (h : K (a.put (some d) v) w') : Oper.wp P oi a w K Q := by
  unfold Oper.wp
  rw [hrun, Oper.upon_value, hd]
  exact h
/-- The one operation that may come up is a call. -/
theorem callT {i : Nat} {oi : Oper} {f : FuncId} {vals : Array Value} {R : Value → World → Prop} (d : Nat) (l' : List Bool) (hl : l.set i true = l') (hr : readyT T l = [i]) (hi : ops[i]? = some oi) (hd : oi.dst = some d) (wi : Region.wanted oi (yielded ops a.tmps) = true)
    (hrun : (execOp a.eval oi).run P w = .ok (.enter f vals) w) (C : Calls P f vals w fun e w' => ∃ u, e = .returned u ∧ R u w') (h : ∀ u w', R u w' → S w' ∧ wpT P md ops Q S T fuel l' (a.put (some d) u) w') : wpT P md ops Q S T (fuel + 1) l a w :=
  oneT l' hl hr hi wi fun _ hK => operC d hd hrun C fun u w' hR => hK.out _ _ (h u w' hR).1 fun _ => (h u w' hR).2
/-- The one operation that may come up makes memory, and hands back a value. -/
theorem makeT {i : Nat} {oi : Oper} {v : Value} {w' : World} {a' : Act} (d : Nat) (l' : List Bool) (hl : l.set i true = l') (hr : readyT T l = [i]) (hi : ops[i]? = some oi) (hd : oi.dst = some d) (wi : Region.wanted oi (yielded ops a.tmps) = true)
    (hrun : (execOp a.eval oi).run P w = .ok (.value v) w') (hS : S w') (ha : a.put (some d) v = a') (h : wpT P md ops Q S T fuel l' a' w') : wpT P md ops Q S T (fuel + 1) l a w :=
  oneT l' hl hr hi wi fun _ hK => operV d hd hrun (hK.out _ _ hS fun _ => by rw [ha]; exact h)
theorem doneT (hr : readyT T l = []) (h : Q .normal a w) : wpT P md ops Q S T fuel l a w := fun h1 _ => wpAnyH_done (by rw [ready_sk, h1]; exact hr) h fuel
end
end Go.Proofs.YtkhalnjgbdpfhaaGreat
