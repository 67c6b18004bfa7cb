/-
  The functions of package number and of its reference that compute with numbers alone: what each call answers; nothing that existed before the call has changed behind it. Condition: none beyond each theorem's own hypotheses.
-/
import Derived.Test.YtaglpfilopcniaaDoorBase
import Derived.Test.YtaglpfilopcniaaDoorNum
namespace Go.Proofs.YtaglpfilopcniaaDoor
open Go.RowKit

theorem lt_true {a b : Int} (h : a < b) : decide (a < b) = true := by simpa using h
theorem lt_false {a b : Int} (h : b ≤ a) : decide (a < b) = false := by simp; omega
theorem w64_id {x : Int} (h0 : -9223372036854775808 ≤ x) (h1 : x ≤ 9223372036854775807) : wrap64 x = x := by unfold wrap64; omega
/-- The variable that the library's reader names at a number out of range holds an error. -/
def Good (w : World) : Prop := ∃ tp p, w.var? Tryd.prog "strconv.ErrRange" = some #[.iface tp p]
theorem gRange : Tryd.prog.globalNamed "strconv.ErrRange" = some 1 := by kernel_rfl
theorem var_size {w : World} {n : String} {g : Nat} {cs : Array Value} (hg : Tryd.prog.globalNamed n = some g) (h : w.var? Tryd.prog n = some cs) : g < w.heap.size := by
  unfold World.var? at h
  simp only [hg, Option.bind_some] at h
  by_cases hs : g < w.heap.size
  · exact hs
  · rw [Array.getElem?_eq_none (by omega)] at h
    cases h
theorem Good.below {w w' : World} (h : Good w) (b : Below w.heap.size w w') : Good w' := by
  obtain ⟨tp, p, hv⟩ := h
  exact ⟨tp, p, var?_below b gRange (var_size gRange hv) hv⟩

/-- The world behind a condition's making: two new cells. -/
abbrev rng (w : World) (lo hi : Int) : World := (w.alloc (.cells #[.int .i64 lo] 3)).alloc (.cells #[.int .i64 hi] 3)
theorem rng_below (w : World) (lo hi : Int) : Below w.heap.size w (rng w lo hi) := ((Below.refl _ _).alloc (Nat.le_refl _) _).alloc (by simp) _
theorem rng_over {W w : World} (hb : Below W.heap.size W w) (lo hi : Int) : Below W.heap.size W (rng w lo hi) := hb.trans ((rng_below w lo hi).mono hb.size)
theorem between_any (lo hi : Int) (w : World) :
    Calls Tryd.prog 36 #[.int .i64 lo, .int .i64 hi] w fun e w' => e = .returned (.func (.func 43) #[] #[.pointer (some ⟨w.heap.size, 0, none⟩), .pointer (some ⟨w.heap.size + 1, 0, none⟩)]) ∧ w' = rng w lo hi := by
  have hmf : ∀ (fn : Fn) (first cap : Array Value) (w : World), (Instr.makeFunc fn first cap).run Tryd.prog w = .ok (.func fn first cap) w := fun _ _ _ _ => rfl
  go_enter Tryd.func36, Tryd.ntmps36
  go_wp2
  go_ret
  exact ⟨rfl, rfl⟩
theorem inside_yes (n lo hi : Int) (h0 : lo ≤ n) (h1 : n ≤ hi) (w : World) :
    Calls Tryd.prog 43 #[.int .i64 n, .pointer (some ⟨w.heap.size, 0, none⟩), .pointer (some ⟨w.heap.size + 1, 0, none⟩)] (rng w lo hi) fun e w' => e = .returned (.bool true) ∧ rng w lo hi = w' := by
  have d0 : decide (lo ≤ n) = true := by simpa using h0
  have d1 : decide (n ≤ hi) = true := by simpa using h1
  go_enter Tryd.func43, Tryd.ntmps43
  go_wp2
  go_ret
  exact ⟨rfl, rfl⟩
theorem inside_no (n lo hi : Int) (h : n < lo ∨ hi < n) (w : World) :
    Calls Tryd.prog 43 #[.int .i64 n, .pointer (some ⟨w.heap.size, 0, none⟩), .pointer (some ⟨w.heap.size + 1, 0, none⟩)] (rng w lo hi) fun e w' => e = .returned (.bool false) ∧ rng w lo hi = w' := by
  by_cases h0 : n < lo
  · have d0 : decide (lo ≤ n) = false := by simp; omega
    go_enter Tryd.func43, Tryd.ntmps43
    go_wp2
    go_ret
    exact ⟨rfl, rfl⟩
  · have d0 : decide (lo ≤ n) = true := by simp; omega
    have d1 : decide (n ≤ hi) = false := by simp; omega
    go_enter Tryd.func43, Tryd.ntmps43
    go_wp2
    go_ret
    exact ⟨rfl, rfl⟩
end Go.Proofs.YtaglpfilopcniaaDoor
