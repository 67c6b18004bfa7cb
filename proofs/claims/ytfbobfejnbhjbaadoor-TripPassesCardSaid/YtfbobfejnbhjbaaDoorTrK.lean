/-
  Plain facts about trips: the first trip that is not valid, the first with an identifier, those that connect two stops, the keys that tell their patterns apart. Condition: none beyond each theorem's own hypotheses.
-/
import Derived.Test.YtfbobfejnbhjbaaDoorTrSt
namespace Go.Proofs.YtfbobfejnbhjbaaDoor
open Go.RowKit

def idT (x : Tp) : List UInt8 := x.1
/-- Whether a trip's route and calendar are indices. -/
def rkT (ro ca r k : Int) : Prop := (0 ≤ r ∧ r < ro) ∧ 0 ≤ k ∧ k < ca
instance (ro ca r k : Int) : Decidable (rkT ro ca r k) := by unfold rkT; infer_instance
/-- The error of a trip. -/
def badT (st ro ca : Int) (seen : List (List UInt8)) (x : Tp) : Int := if validB x.1 = false then 12 else if x.1 ∈ seen then 6 else if rkT ro ca x.2.1 x.2.2.1 then (chkC st 0 172800 x.2.2.2.2.2).2 else 9
section
variable {st ro ca : Int} {seen : List (List UInt8)} {x : Tp}
theorem badT_name (h : validB x.1 = false) : badT st ro ca seen x = 12 := by unfold badT; rw [if_pos h]
theorem badT_twice (h : validB x.1 = true) (h2 : x.1 ∈ seen) : badT st ro ca seen x = 6 := by unfold badT; rw [if_neg (by rw [h]; simp), if_pos h2]
theorem badT_ref (h : validB x.1 = true) (h2 : x.1 ∉ seen) (h3 : ¬ rkT ro ca x.2.1 x.2.2.1) : badT st ro ca seen x = 9 := by unfold badT; rw [if_neg (by rw [h]; simp), if_neg h2, if_neg h3]
theorem badT_calls (h : validB x.1 = true) (h2 : x.1 ∉ seen) (h3 : rkT ro ca x.2.1 x.2.2.1) : badT st ro ca seen x = (chkC st 0 172800 x.2.2.2.2.2).2 := by unfold badT; rw [if_neg (by rw [h]; simp), if_neg h2, if_pos h3]
end
theorem valid_le {l : List UInt8} (h : validB l = true) : l.length ≤ 32 := ((valid_iff l).1 h).1.2
/-- What Check answers. -/
def chkT (st ro ca : Int) (l : List Tp) : Int × Int := if 256 < l.length then (0, 5) else fbF (badT st ro ca) idT [] 0 l
theorem chkT_many {st ro ca : Int} {l : List Tp} (h : 256 < l.length) : chkT st ro ca l = (0, 5) := by unfold chkT; rw [if_pos h]
theorem chkT_start {st ro ca : Int} {l : List Tp} (h : l.length ≤ 256) : chkT st ro ca l = fbF (badT st ro ca) idT ((l.take 0).map idT) 0 (l.drop 0) := by unfold chkT; rw [if_neg (by omega)]; rfl
/-- Whether a trip has this identifier. -/
def isT (id : List UInt8) (x : Tp) : Bool := decide (x.1 = id)
theorem isT_yes {id : List UInt8} {x : Tp} (h : x.1 = id) : isT id x = true := decide_eq_true h
theorem isT_no {id : List UInt8} {x : Tp} (h : x.1 ≠ id) : isT id x = false := decide_eq_false h
theorem fdF_none {α : Type} (p : α → Bool) : ∀ (l : List α) (k : Nat), fdF p k l = -1 → ∀ x ∈ l, p x = false
  | [], _, _, x, hx => by cases hx
  | y :: r, k, h, x, hx => by
    unfold fdF at h
    by_cases hp : p y = true
    · rw [if_pos hp] at h
      omega
    · rw [if_neg hp] at h
      rcases List.mem_cons.1 hx with rfl | hx
      · exact Bool.eq_false_iff.2 hp
      · exact fdF_none p r (k + 1) h x hx
theorem fdt_in {id : List UInt8} {l : List Tp} (h : 0 ≤ fdT (isT id) l) : id ∈ l.map idT := by
  obtain ⟨j, x, h1, h2, _⟩ := fd_mem (p := isT id) (l := l) (by omega)
  exact List.mem_map.2 ⟨x, List.mem_iff_getElem?.2 ⟨j, h1⟩, of_decide_eq_true h2⟩
theorem fdt_no {id : List UInt8} {l : List Tp} (h : ¬ 0 ≤ fdT (isT id) l) : id ∉ l.map idT := by
  rcases fd_range (isT id) l with h1 | h1
  · intro hm
    obtain ⟨x, hx, e⟩ := List.mem_map.1 hm
    have := fdF_none (isT id) l 0 h1 x hx
    rw [isT_yes e] at this
    cases this
  · omega
theorem fd_ge {α : Type} (p : α → Bool) (l : List α) : -1 ≤ fdT p l := by rcases fd_range p l with h | h <;> omega
/-- Whether a trip connects two stops. -/
def cnT (a b : Int) (x : Tp) : Bool := conT a b x.2.2.2.2.2
/-- The text that tells a trip's pattern. -/
def kyT (x : Tp) : List UInt8 := txP (patV x.2.2.2.2.2)
/-- The pattern itself. -/
def ptT (x : Tp) : List Vs := patV x.2.2.2.2.2
/-- Groups of trips are groups of patterns. -/
theorem grp_keys (l : List Tp) : grp (l.map kyT) = grp (l.map ptT) := by
  have : l.map kyT = (l.map ptT).map txP := by rw [List.map_map]; rfl
  rw [this]
  exact grp_map (fun a b => txP_inj a b) _
theorem pt_at {l : List Tp} {i : Nat} {x : Tp} (h : l[i]? = some x) : (l.map ptT)[i]? = some (ptT x) := by rw [List.getElem?_map, h]; rfl
theorem ky_at {l : List Tp} {i : Nat} {x : Tp} (h : l[i]? = some x) : (l.map kyT)[i]? = some (kyT x) := by rw [List.getElem?_map, h]; rfl
theorem ky_take (l : List Tp) (k : Nat) : (l.map kyT).take k = (l.take k).map kyT := by rw [List.map_take]
end Go.Proofs.YtfbobfejnbhjbaaDoor
