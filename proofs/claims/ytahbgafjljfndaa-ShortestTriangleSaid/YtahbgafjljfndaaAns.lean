/-
  What the functions about shortest paths answer, as functions of numbers and lists: no program. Condition: none beyond each theorem's own hypotheses.
-/
import Derived.Test.YtahbgafjljfndaaKChk
namespace Go.Proofs.Ytahbgafjljfndaa
open Go

def dnE (e : Er) : Ed := (e.1.toNat, e.2.1.toNat, e.2.2.toNat)
theorem Graph.down {n : Int} {l : List Er} {N : Nat} {L : List Ed} (h : Graph n l N L) : l.map dnE = L ∧ n.toNat = N := by
  refine ⟨?_, by rw [h.n_eq]; rfl⟩
  rw [h.l_eq, List.map_map]
  have : (dnE ∘ upE) = id := by
    funext e
    rfl
  rw [this, List.map_id]
/-- The node after a, as the reference finds it. -/
def ndR (L : List Ed) (d : List Int) (s : Nat) : Nat → Nat
  | 0 => s
  | j + 1 => (nxtR L d (ndR L d s j)).toNat
def pathR (L : List Ed) (d : List Int) (s k : Nat) : List Int := (List.range k).map fun j => ((ndR L d s j : Nat) : Int)
theorem ndR_nd {L : List Ed} {n b : Nat} {lab : List Ct} (h : Lc (turnL L) n b lab) (hn : n ≤ 64) (hb : b < n) (hl : Inn L n) {s c : Nat} (hs : s < n) (hm : Mn 128 L b s c) (ha : gl lab s = (((c / 128 : Nat) : Int), ((c % 128 : Nat) : Int))) (hd : (costL n L b).getD s (-1) = (c : Int)) (hc : c / 128 < 68719476736) :
    ∀ j, j ≤ c % 128 → ndR L (costL n L b) s j = nd L lab s j := by
  intro j
  induction j with
  | zero => intro _; rfl
  | succ j ih =>
    intro hj
    obtain ⟨h1, x, x1, x2, x3, x4, x5⟩ := h.path hn hb hl hs hm ha hd hc j (by omega)
    obtain ⟨w, c', e1, e2, e3, e4, e5, e6, e7, e8⟩ := h.next hn hb hl x1 x2 x3 x4 (by omega)
    show (nxtR L (costL n L b) (ndR L (costL n L b) s j)).toNat = nxt L lab (nd L lab s j)
    rw [ih (by omega), e8]
    rfl
theorem pathR_eq {L : List Ed} {n b : Nat} {lab : List Ct} (h : Lc (turnL L) n b lab) (hn : n ≤ 64) (hb : b < n) (hl : Inn L n) {s c : Nat} (hs : s < n) (hm : Mn 128 L b s c) (ha : gl lab s = (((c / 128 : Nat) : Int), ((c % 128 : Nat) : Int))) (hd : (costL n L b).getD s (-1) = (c : Int)) (hc : c / 128 < 68719476736) :
    pathR L (costL n L b) s (c % 128 + 1) = pathN L lab s (c % 128 + 1) := by
  unfold pathR pathN
  apply List.map_congr_left
  intro j hj
  rw [ndR_nd h hn hb hl hs hm ha hd hc j (by have := List.mem_range.1 hj; omega)]
/-- The distances from a. -/
def ansD (n : Int) (l : List Er) (a : Int) : List Int := if chkK n l [a] = 0 then distL n.toNat (l.map dnE) a.toNat else []
/-- All distances. -/
def ansA (n : Int) (l : List Er) : List (List Int) := if chkR n l = 0 then (List.range n.toNat).map (distL n.toNat (l.map dnE)) else []
/-- The components. -/
def ansC (n : Int) (l : List Er) : List Int := if chkR n l = 0 then compL (firstL n.toNat (l.map dnE)) else []
/-- The path: its nodes, its length, the error. -/
def ansP (n : Int) (l : List Er) (a b : Int) : List Int × Int × Int :=
  if chkK n l [a, b] = 0 then
    (if (costL n.toNat (l.map dnE) b.toNat).getD a.toNat (-1) < 0 then ([], 0, 7) else (pathR (l.map dnE) (costL n.toNat (l.map dnE) b.toNat) a.toNat (((costL n.toNat (l.map dnE) b.toNat).getD a.toNat (-1)).toNat % 128 + 1), (costL n.toNat (l.map dnE) b.toNat).getD a.toNat (-1) / 128, 0))
  else ([], 0, chkK n l [a, b])
theorem chkK_zero {n : Int} {l : List Er} {m : List Int} (h : chkK n l m = 0) : chkR n l = 0 ∧ chkN n m = 0 := by
  unfold chkK at h
  split at h
  · next h0 => exact ⟨h0, h⟩
  · next h0 => exact absurd h h0
theorem chkN_zero {n : Int} : ∀ {m : List Int}, chkN n m = 0 → ∀ x ∈ m, 0 ≤ x ∧ x < n
  | [], _ => fun x hx => by cases hx
  | y :: m, h => by
    unfold chkN at h
    split at h
    · omega
    · intro x hx
      rcases List.mem_cons.1 hx with rfl | hx
      · omega
      · exact chkN_zero h x hx
theorem chkK_nil (n : Int) (l : List Er) : chkK n l [] = chkR n l := by
  unfold chkK
  split
  · next h => rw [h]; rfl
  · rfl
theorem ansD_ok {n : Int} {l : List Er} {N b : Nat} {L : List Ed} (g : Graph n l N L) (h : chkK n l [(b : Int)] = 0) : ansD n l b = distL N L b := by
  unfold ansD
  rw [if_pos h, g.down.1, g.down.2]
  rfl
theorem ansC_ok {n : Int} {l : List Er} {N : Nat} {L : List Ed} (g : Graph n l N L) (h : chkR n l = 0) : ansC n l = compL (firstL N L) := by
  unfold ansC
  rw [if_pos h, g.down.1, g.down.2]
theorem ansA_ok {n : Int} {l : List Er} {N : Nat} {L : List Ed} (g : Graph n l N L) (h : chkR n l = 0) : ansA n l = (List.range N).map (distL N L) := by
  unfold ansA
  rw [if_pos h, g.down.1, g.down.2]
theorem ansP_no {n : Int} {l : List Er} {N a b : Nat} {L : List Ed} (g : Graph n l N L) (h : chkK n l [(a : Int), (b : Int)] = 0) (hc : (costL N L b).getD a (-1) < 0) : ansP n l a b = ([], 0, 7) := by
  unfold ansP
  rw [if_pos h, g.down.1, g.down.2]
  exact if_pos hc
theorem ansP_yes {n : Int} {l : List Er} {N a b c : Nat} {L : List Ed} (g : Graph n l N L) (h : chkK n l [(a : Int), (b : Int)] = 0) (hc : (costL N L b).getD a (-1) = (c : Int)) : ansP n l a b = (pathR L (costL N L b) a (c % 128 + 1), ((c / 128 : Nat) : Int), 0) := by
  unfold ansP
  rw [if_pos h, g.down.1, g.down.2]
  show (if (costL N L b).getD a (-1) < 0 then _ else _) = _
  rw [if_neg (by omega)]
  show (pathR L (costL N L b) a (((costL N L b).getD a (-1)).toNat % 128 + 1), (costL N L b).getD a (-1) / 128, (0 : Int)) = _
  rw [hc]
  rfl
theorem ansD_bad {n : Int} {l : List Er} {a : Int} (h : chkK n l [a] ≠ 0) : ansD n l a = [] := by unfold ansD; rw [if_neg h]
theorem ansC_bad {n : Int} {l : List Er} (h : chkR n l ≠ 0) : ansC n l = [] := by unfold ansC; rw [if_neg h]
theorem ansA_bad {n : Int} {l : List Er} (h : chkR n l ≠ 0) : ansA n l = [] := by unfold ansA; rw [if_neg h]
theorem ansP_bad {n : Int} {l : List Er} {a b : Int} (h : chkK n l [a, b] ≠ 0) : ansP n l a b = ([], 0, chkK n l [a, b]) := by unfold ansP; rw [if_neg h]
end Go.Proofs.Ytahbgafjljfndaa
