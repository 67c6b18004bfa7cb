/-
  Parse of the reference of package clock: what each call answers; nothing that existed before the call has changed behind it. Condition: none beyond each theorem's own hypotheses.
-/
import Derived.Test.YtalghfmdaifcgaaDoorParse
import Derived.Deep.QuietTactic
import Derived.BigQuiet
namespace Go.Proofs.YtalghfmdaifcgaaDoor
open Go.RowKit

theorem pairN_eq (s : ByteArray) (i j : Nat) (hj : j = i + 1) (h : j < s.size) (hi : i < s.size) (d0 : 48 ≤ s[i].toNat) (d1 : 48 ≤ s[j].toNat) : (pairN s.data.toList i : Int) = 10 * ((s[i].toNat : Int) - 48) + ((s[j].toNat : Int) - 48) := by
  subst hj
  have e : (s.data.toList.drop i).take 2 = [s[i], s[i + 1]] := by
    apply List.ext_getElem?
    intro k
    match k with
    | 0 => rw [List.getElem?_take_of_lt (by decide), List.getElem?_drop, Nat.add_zero, list_at s i hi]; rfl
    | 1 => rw [List.getElem?_take_of_lt (by decide), List.getElem?_drop, list_at s (i + 1) h]; rfl
    | k + 2 => rw [List.getElem?_eq_none (by simp; omega)]; rfl
  unfold pairN
  rw [e]
  simp [valN]
  omega


theorem ret_int {k : IntKind} {a b : Int} (h : a = b) : Ending.returned (.int k a) = .returned (.int k b) := by rw [h]
theorem form_byte (s : ByteArray) (hf : timeForm s.data.toList = true) (k : Nat) (h : k < s.size) (hk : ¬ (k = 2 ∨ k = 5)) : 48 ≤ s[k].toNat ∧ s[k].toNat ≤ 57 :=
  (okAt_digit k _ hk).1 ((form_at _ hf).2 k _ (list_at s k h))
theorem form_colon (s : ByteArray) (hf : timeForm s.data.toList = true) (k : Nat) (h : k < s.size) (hk : k = 2 ∨ k = 5) : s[k].toNat = 58 :=
  (okAt_colon k _ hk).1 ((form_at _ hf).2 k _ (list_at s k h))

theorem timeR_yes (l : List UInt8) (hf : timeForm l = true) (hp : Parts (pairN l 0) (pairN l 3) (pairN l 6)) : timeR l = ((pairN l 0 : Int) * 3600 + (pairN l 3 : Int) * 60 + (pairN l 6 : Int), 0) := by
  unfold timeR; rw [if_pos hf, if_pos hp]
theorem timeR_time (l : List UInt8) (hf : timeForm l = true) (hp : ¬ Parts (pairN l 0) (pairN l 3) (pairN l 6)) : timeR l = (0, 10) := by
  unfold timeR; rw [if_pos hf, if_neg hp]
theorem timeR_syntax (l : List UInt8) (hf : timeForm l = false) : timeR l = (0, 3) := by
  unfold timeR; rw [hf]; rfl
theorem parse_any (s : ByteArray) (w : World) :
    Calls Tryd.prog 54 #[.string s] w fun e w' => e = .returned (.tuple #[.int .i64 (timeR s.data.toList).1, .int .i64 (timeR s.data.toList).2]) ∧ Below w.heap.size w w' := by
  cases hf : timeForm s.data.toList with
  | false => rw [timeR_syntax _ hf]; exact parse_syntax s hf w
  | true =>
    by_cases hp : Parts (pairN s.data.toList 0) (pairN s.data.toList 3) (pairN s.data.toList 6)
    · rw [timeR_yes _ hf hp]; exact parse_yes s hf hp w
    · rw [timeR_time _ hf hp]; exact parse_time s hf hp w
end Go.Proofs.YtalghfmdaifcgaaDoor
