/-
  The number of bits of a word of 64 bits, added up in parallel: pairs, nibbles, bytes, as natural numbers: no program. Condition: none beyond each theorem's own hypotheses.
-/
import Derived.Test.YtkpmmojfnhfflaaBit
namespace Go.Proofs.Ytkpmmojfnhfflaa
open Go

theorem and_cut (a b c d : Nat) (ha : a < 256) (hc : c < 256) : (a + 256 * b) &&& (c + 256 * d) = (a &&& c) + 256 * (b &&& d) := by
  have h := (Nat.mod_add_div ((a + 256 * b) &&& (c + 256 * d)) (2 ^ 8)).symm
  rw [Nat.and_mod_two_pow, Nat.and_div_two_pow] at h
  rw [show (a + 256 * b) % 2 ^ 8 = a by omega, show (c + 256 * d) % 2 ^ 8 = c by omega, show (a + 256 * b) / 2 ^ 8 = b by omega, show (c + 256 * d) / 2 ^ 8 = d by omega] at h
  exact h
/-- A byte, n times. -/
def rowK (c : Nat) : Nat → Nat
  | 0 => 0
  | n + 1 => c + 256 * rowK c n
/-- A function of bytes at the n lowest bytes. -/
def rowW (f : Nat → Nat) : Nat → Nat → Nat
  | 0, _ => 0
  | n + 1, x => f (x % 256) + 256 * rowW f n (x / 256)
def pop1 (d : Nat) : Nat := (d / 2 &&& 85) + (d &&& 85)
def pop2 (d : Nat) : Nat := (d / 4 &&& 51) + (d &&& 51)
def pop3 (d : Nat) : Nat := (d / 16 + d) % 16
theorem low1 : ∀ y : Fin 512, (y.val / 2 % 256 &&& 85) = (y.val % 256 / 2 &&& 85) := by decide +kernel
theorem low2 : ∀ y : Fin 1024, (y.val / 4 % 256 &&& 51) = (y.val % 256 / 4 &&& 51) := by decide +kernel
theorem row1 : ∀ n x : Nat, (x / 2 &&& rowK 85 n) + (x &&& rowK 85 n) = rowW pop1 n x
  | 0, x => by simp [rowK, rowW]
  | n + 1, x => by
    have e1 := and_cut (x / 2 % 256) (x / 256 / 2) 85 (rowK 85 n) (by omega) (by omega)
    have e2 := and_cut (x % 256) (x / 256) 85 (rowK 85 n) (by omega) (by omega)
    have e3 := low1 ⟨x % 512, by omega⟩
    rw [show x / 2 % 256 + 256 * (x / 256 / 2) = x / 2 by omega] at e1
    rw [show x % 256 + 256 * (x / 256) = x by omega] at e2
    simp only at e3
    rw [show x % 512 / 2 % 256 = x / 2 % 256 by omega, show x % 512 % 256 = x % 256 by omega] at e3
    have := row1 n (x / 256)
    have k : rowK 85 (n + 1) = 85 + 256 * rowK 85 n := rfl
    have r : rowW pop1 (n + 1) x = ((x % 256) / 2 &&& 85) + (x % 256 &&& 85) + 256 * rowW pop1 n (x / 256) := rfl
    rw [k, r, e1, e2, e3]
    omega
theorem row2 : ∀ n x : Nat, (x / 4 &&& rowK 51 n) + (x &&& rowK 51 n) = rowW pop2 n x
  | 0, x => by simp [rowK, rowW]
  | n + 1, x => by
    have e1 := and_cut (x / 4 % 256) (x / 256 / 4) 51 (rowK 51 n) (by omega) (by omega)
    have e2 := and_cut (x % 256) (x / 256) 51 (rowK 51 n) (by omega) (by omega)
    have e3 := low2 ⟨x % 1024, by omega⟩
    rw [show x / 4 % 256 + 256 * (x / 256 / 4) = x / 4 by omega] at e1
    rw [show x % 256 + 256 * (x / 256) = x by omega] at e2
    simp only at e3
    rw [show x % 1024 / 4 % 256 = x / 4 % 256 by omega, show x % 1024 % 256 = x % 256 by omega] at e3
    have := row2 n (x / 256)
    have k : rowK 51 (n + 1) = 51 + 256 * rowK 51 n := rfl
    have r : rowW pop2 (n + 1) x = ((x % 256) / 4 &&& 51) + (x % 256 &&& 51) + 256 * rowW pop2 n (x / 256) := rfl
    rw [k, r, e1, e2, e3]
    omega
theorem row_lt {f : Nat → Nat} (h : ∀ d, d < 256 → f d < 256) : ∀ n x : Nat, rowW f n x < 256 ^ n
  | 0, _ => by simp [rowW]
  | n + 1, x => by
    have h1 := h (x % 256) (by omega)
    have h2 := row_lt h n (x / 256)
    unfold rowW
    rw [Nat.pow_succ]
    omega
theorem row_row {f g : Nat → Nat} (h : ∀ d, d < 256 → g d < 256) : ∀ n x : Nat, rowW f n (rowW g n x) = rowW (fun d => f (g d)) n x
  | 0, _ => rfl
  | n + 1, x => by
    have h1 := h (x % 256) (by omega)
    have e : rowW g (n + 1) x = g (x % 256) + 256 * rowW g n (x / 256) := rfl
    have e2 : rowW f (n + 1) (rowW g (n + 1) x) = f (rowW g (n + 1) x % 256) + 256 * rowW f n (rowW g (n + 1) x / 256) := rfl
    have e3 : rowW (fun d => f (g d)) (n + 1) x = f (g (x % 256)) + 256 * rowW (fun d => f (g d)) n (x / 256) := rfl
    rw [e2, e3, e, show (g (x % 256) + 256 * rowW g n (x / 256)) % 256 = g (x % 256) by omega, show (g (x % 256) + 256 * rowW g n (x / 256)) / 256 = rowW g n (x / 256) by omega, row_row h n]
theorem row3 {g : Nat → Nat} (h : ∀ d, d < 256 → g d / 16 ≤ 4 ∧ g d % 16 ≤ 4) : ∀ n x : Nat, (rowW g n x / 16 + rowW g n x) &&& rowK 15 n = rowW (fun d => pop3 (g d)) n x
  | 0, _ => by simp [rowK, rowW]
  | n + 1, x => by
    have h1 := h (x % 256) (by omega)
    have e : rowW g (n + 1) x = g (x % 256) + 256 * rowW g n (x / 256) := rfl
    have e3 : rowW (fun d => pop3 (g d)) (n + 1) x = pop3 (g (x % 256)) + 256 * rowW (fun d => pop3 (g d)) n (x / 256) := rfl
    have hr : rowW g n (x / 256) % 16 ≤ 4 := by
      cases n with
      | zero => simp [rowW]
      | succ n =>
        have e4 : rowW g (n + 1) (x / 256) = g (x / 256 % 256) + 256 * rowW g n (x / 256 / 256) := rfl
        have := h (x / 256 % 256) (by omega)
        rw [e4]
        omega
    have hi := row3 h n (x / 256)
    rw [e, e3, ← hi]
    generalize rowW g n (x / 256) = r at hr
    unfold pop3
    generalize g (x % 256) = d at h1
    have hc := and_cut (d / 16 + d + 16 * (r % 16)) (r / 16 + r) 15 (rowK 15 n) (by omega) (by omega)
    rw [show (d + 256 * r) / 16 + (d + 256 * r) = d / 16 + d + 16 * (r % 16) + 256 * (r / 16 + r) by omega]
    show _ &&& (15 + 256 * rowK 15 n) = _
    rw [hc, Nat.and_two_pow_sub_one_eq_mod _ 4]
    omega
theorem pop_small : ∀ d : Fin 256, pop1 d.val < 256 ∧ pop2 (pop1 d.val) / 16 ≤ 4 ∧ pop2 (pop1 d.val) % 16 ≤ 4 := by decide +kernel

/-! ### Counting one by one -/
def cntB : Nat → Nat → Nat
  | 0, _ => 0
  | n + 1, x => cntB n x + x / 2 ^ n % 2
theorem cnt_filter (x : Nat) : ∀ n, ((List.range n).filter fun i => x.testBit i).length = cntB n x
  | 0 => rfl
  | n + 1 => by
    rw [List.range_succ, List.filter_append, List.length_append, cnt_filter x n]
    have e : cntB (n + 1) x = cntB n x + x / 2 ^ n % 2 := rfl
    rw [e]
    have := bit_div x n
    cases h : x.testBit n with
    | false => rw [h] at this; simp at this; simp [h]; omega
    | true => rw [h] at this; simp at this; simp [h]; omega
theorem cnt_add (a x : Nat) : ∀ b, cntB (a + b) x = cntB a x + cntB b (x / 2 ^ a)
  | 0 => rfl
  | b + 1 => by
    have e : cntB (a + (b + 1)) x = cntB (a + b) x + x / 2 ^ (a + b) % 2 := rfl
    have e2 : cntB (b + 1) (x / 2 ^ a) = cntB b (x / 2 ^ a) + x / 2 ^ a / 2 ^ b % 2 := rfl
    rw [e, e2, cnt_add a x b, Nat.div_div_eq_div_mul, Nat.pow_add]
    omega
theorem cnt_low (x : Nat) : cntB 8 x = cntB 8 (x % 256) := by
  simp only [cntB]
  omega
theorem pop_cnt : ∀ d : Fin 256, pop3 (pop2 (pop1 d.val)) = cntB 8 d.val := by decide +kernel
theorem cnt_le : ∀ d : Fin 256, cntB 8 d.val ≤ 8 := by decide +kernel
/-- The sum of the bytes. -/
def sumW (f : Nat → Nat) : Nat → Nat → Nat
  | 0, _ => 0
  | n + 1, x => f (x % 256) + sumW f n (x / 256)
theorem cnt_sum : ∀ n x : Nat, cntB (8 * n) x = sumW (cntB 8) n x
  | 0, _ => rfl
  | n + 1, x => by
    rw [show 8 * (n + 1) = 8 + 8 * n by omega, cnt_add, cnt_low, cnt_sum n]
    rfl
/-- A number by its bytes, the lowest first. -/
def numB : List Nat → Nat
  | [] => 0
  | a :: l => a + 256 * numB l
def zipB : List Nat → List Nat → List Nat
  | [], m => m
  | a :: l, [] => a :: l
  | a :: l, b :: m => (a + b) :: zipB l m
theorem num_add : ∀ l m, numB l + numB m = numB (zipB l m)
  | [], m => by simp [numB, zipB]
  | a :: l, [] => by simp [numB, zipB]
  | a :: l, b :: m => by
    have := num_add l m
    simp only [numB, zipB]
    omega
theorem num_lt : ∀ (l : List Nat), (∀ d ∈ l, d < 256) → numB l < 256 ^ l.length
  | [], _ => by simp [numB]
  | a :: l, h => by
    have h1 := h a (by simp)
    have h2 := num_lt l fun d hd => h d (List.mem_cons_of_mem _ hd)
    simp only [numB, List.length_cons, Nat.pow_succ]
    omega
theorem num_div : ∀ (n : Nat) (l : List Nat), (∀ d ∈ l, d < 256) → numB l / 256 ^ n = numB (l.drop n)
  | 0, l, _ => by simp
  | n + 1, [], _ => by simp [numB]
  | n + 1, a :: l, h => by
    have h1 := h a (by simp)
    have h2 := num_div n l fun d hd => h d (List.mem_cons_of_mem _ hd)
    rw [List.drop_succ_cons, ← h2, Nat.pow_succ, Nat.mul_comm, ← Nat.div_div_eq_div_mul]
    congr 1
    simp only [numB]
    omega
theorem lits8 {a b c d e f g h : Nat} : 256 ^ [a, b, c, d, e, f, g, h].length = 18446744073709551616 := by simp
theorem eight {p : Nat → Prop} {a b c d e f g h : Nat} (h0 : p a) (h1 : p b) (h2 : p c) (h3 : p d) (h4 : p e) (h5 : p f) (h6 : p g) (h7 : p h) : ∀ x ∈ [a, b, c, d, e, f, g, h], p x := by
  intro x hx
  simp only [List.mem_cons, List.not_mem_nil, or_false] at hx
  rcases hx with rfl | rfl | rfl | rfl | rfl | rfl | rfl | rfl <;> assumption
/-- The bytes added up by three shifts. -/
theorem sum_bytes {f : Nat → Nat} (h : ∀ d, d < 256 → f d ≤ 8) (x y : Nat) (hy : y = rowW f 8 x) :
    y < 18446744073709551616 ∧ y + y / 256 < 18446744073709551616 ∧ y + y / 256 + (y + y / 256) / 65536 < 18446744073709551616 ∧
    y + y / 256 + (y + y / 256) / 65536 + (y + y / 256 + (y + y / 256) / 65536) / 4294967296 < 9223372036854775808 ∧
    (y + y / 256 + (y + y / 256) / 65536 + (y + y / 256 + (y + y / 256) / 65536) / 4294967296) % 128 = sumW f 8 x := by
  simp only [rowW, sumW] at *
  have h0 := h (x % 256) (by omega)
  have h1 := h (x / 256 % 256) (by omega)
  have h2 := h (x / 256 / 256 % 256) (by omega)
  have h3 := h (x / 256 / 256 / 256 % 256) (by omega)
  have h4 := h (x / 256 / 256 / 256 / 256 % 256) (by omega)
  have h5 := h (x / 256 / 256 / 256 / 256 / 256 % 256) (by omega)
  have h6 := h (x / 256 / 256 / 256 / 256 / 256 / 256 % 256) (by omega)
  have h7 := h (x / 256 / 256 / 256 / 256 / 256 / 256 / 256 % 256) (by omega)
  generalize f (x % 256) = p0 at *
  generalize f (x / 256 % 256) = p1 at *
  generalize f (x / 256 / 256 % 256) = p2 at *
  generalize f (x / 256 / 256 / 256 % 256) = p3 at *
  generalize f (x / 256 / 256 / 256 / 256 % 256) = p4 at *
  generalize f (x / 256 / 256 / 256 / 256 / 256 % 256) = p5 at *
  generalize f (x / 256 / 256 / 256 / 256 / 256 / 256 % 256) = p6 at *
  generalize f (x / 256 / 256 / 256 / 256 / 256 / 256 / 256 % 256) = p7 at *
  clear h
  have e0 : y = numB [p0, p1, p2, p3, p4, p5, p6, p7] := hy
  clear hy
  have l0 := eight (p := (· < 256)) (show p0 < 256 by omega) (show p1 < 256 by omega) (show p2 < 256 by omega) (show p3 < 256 by omega) (show p4 < 256 by omega) (show p5 < 256 by omega) (show p6 < 256 by omega) (show p7 < 256 by omega)
  have d0 := num_div 1 _ l0
  rw [← e0] at d0
  have e1 := num_add [p0, p1, p2, p3, p4, p5, p6, p7] [p1, p2, p3, p4, p5, p6, p7]
  have l1 := eight (p := (· < 256)) (show p0 + p1 < 256 by omega) (show p1 + p2 < 256 by omega) (show p2 + p3 < 256 by omega) (show p3 + p4 < 256 by omega) (show p4 + p5 < 256 by omega) (show p5 + p6 < 256 by omega) (show p6 + p7 < 256 by omega) (show p7 < 256 by omega)
  have d1 := num_div 2 _ l1
  have e2 := num_add [p0 + p1, p1 + p2, p2 + p3, p3 + p4, p4 + p5, p5 + p6, p6 + p7, p7] [p2 + p3, p3 + p4, p4 + p5, p5 + p6, p6 + p7, p7]
  have l2 := eight (p := (· < 256)) (show p0 + p1 + (p2 + p3) < 256 by omega) (show p1 + p2 + (p3 + p4) < 256 by omega) (show p2 + p3 + (p4 + p5) < 256 by omega) (show p3 + p4 + (p5 + p6) < 256 by omega) (show p4 + p5 + (p6 + p7) < 256 by omega) (show p5 + p6 + p7 < 256 by omega) (show p6 + p7 < 256 by omega) (show p7 < 256 by omega)
  have d2 := num_div 4 _ l2
  have e3 := num_add [p0 + p1 + (p2 + p3), p1 + p2 + (p3 + p4), p2 + p3 + (p4 + p5), p3 + p4 + (p5 + p6), p4 + p5 + (p6 + p7), p5 + p6 + p7, p6 + p7, p7] [p4 + p5 + (p6 + p7), p5 + p6 + p7, p6 + p7, p7]
  have l3 := eight (p := (· < 128)) (show p0 + p1 + (p2 + p3) + (p4 + p5 + (p6 + p7)) < 128 by omega) (show p1 + p2 + (p3 + p4) + (p5 + p6 + p7) < 128 by omega) (show p2 + p3 + (p4 + p5) + (p6 + p7) < 128 by omega) (show p3 + p4 + (p5 + p6) + p7 < 128 by omega) (show p4 + p5 + (p6 + p7) < 128 by omega) (show p5 + p6 + p7 < 128 by omega) (show p6 + p7 < 128 by omega) (show p7 < 128 by omega)
  simp only [zipB, List.drop_succ_cons, List.drop_zero] at e1 e2 e3 d0 d1 d2
  have b0 := num_lt _ l0
  have b1 := num_lt _ l1
  have b2 := num_lt _ l2
  have b3 : numB [p0 + p1 + (p2 + p3) + (p4 + p5 + (p6 + p7)), p1 + p2 + (p3 + p4) + (p5 + p6 + p7), p2 + p3 + (p4 + p5) + (p6 + p7), p3 + p4 + (p5 + p6) + p7, p4 + p5 + (p6 + p7), p5 + p6 + p7, p6 + p7, p7] < 9223372036854775808 := by
    clear e1 e2 e3 d0 d1 d2 e0 b0 b1 b2 l0 l1 l2 l3
    simp only [numB]
    omega
  rw [← e0] at e1 b0
  rw [← d0, show (256 : Nat) ^ 1 = 256 by rfl] at e1
  rw [← e1] at d1 e2 b1
  rw [← d1, show (256 : Nat) ^ 2 = 65536 by rfl] at e2
  rw [← e2] at d2 e3 b2
  rw [← d2, show (256 : Nat) ^ 4 = 4294967296 by rfl] at e3
  rw [lits8] at b0 b1 b2
  refine ⟨b0, b1, b2, ?_, ?_⟩
  · rw [e3]; exact b3
  · rw [e3]
    show (_ + 256 * _) % 128 = _
    rw [show (256 : Nat) = 128 * 2 by rfl, Nat.mul_assoc, Nat.add_mul_mod_self_left, Nat.mod_eq_of_lt (l3 _ (by simp))]
    omega
theorem row_same {f g : Nat → Nat} (h : ∀ d, d < 256 → f d = g d) : ∀ n x : Nat, rowW f n x = rowW g n x
  | 0, _ => rfl
  | n + 1, x => by
    unfold rowW
    rw [h _ (by omega), row_same h n]
/-- The number of bits, added up in parallel: no sum on the way passes 2^64, and the last seven bits of the last sum are the number of the elements. -/
theorem pop_all (x a b y : Nat) (ha : a = (x / 2 &&& 6148914691236517205) + (x &&& 6148914691236517205)) (hb : b = (a / 4 &&& 3689348814741910323) + (a &&& 3689348814741910323)) (hy : y = (b / 16 + b) &&& 1085102592571150095) :
    a < 18446744073709551616 ∧ b < 18446744073709551616 ∧ b / 16 + b < 18446744073709551616 ∧ y < 18446744073709551616 ∧ y + y / 256 < 18446744073709551616 ∧ y + y / 256 + (y + y / 256) / 65536 < 18446744073709551616 ∧
    y + y / 256 + (y + y / 256) / 65536 + (y + y / 256 + (y + y / 256) / 65536) / 4294967296 < 9223372036854775808 ∧
    (y + y / 256 + (y + y / 256) / 65536 + (y + y / 256 + (y + y / 256) / 65536) / 4294967296) % 128 = (elems x).length := by
  have k1 : rowK 85 8 = 6148914691236517205 := by decide
  have k2 : rowK 51 8 = 3689348814741910323 := by decide
  have k3 : rowK 15 8 = 1085102592571150095 := by decide
  rw [← k1, row1] at ha
  rw [← k2, row2, ha, row_row (fun d hd => (pop_small ⟨d, hd⟩).1)] at hb
  rw [← k3, hb, row3 (fun d hd => (pop_small ⟨d, hd⟩).2)] at hy
  rw [row_same (g := cntB 8) (fun d hd => pop_cnt ⟨d, hd⟩)] at hy
  have hs := sum_bytes (f := cntB 8) (fun d hd => cnt_le ⟨d, hd⟩) x y hy
  have ha2 := row_lt (f := pop1) (fun d hd => (pop_small ⟨d, hd⟩).1) 8 x
  have hb2 := row_lt (f := fun d => pop2 (pop1 d)) (fun d hd => by have := (pop_small ⟨d, hd⟩).2; simp only at this ⊢; omega) 8 x
  have hb3 : b / 16 + b < 18446744073709551616 := by
    have : b ≤ 4919131752989213764 := by
      rw [hb]
      have hd : ∀ n y : Nat, 255 * rowW (fun d => pop2 (pop1 d)) n y + 68 ≤ 68 * 256 ^ n := by
        intro n
        induction n with
        | zero => intro y; simp [rowW]
        | succ n ih =>
          intro y
          have := ih (y / 256)
          have h2 := (pop_small ⟨y % 256, by omega⟩).2
          simp only at h2
          simp only [rowW, Nat.pow_succ]
          omega
      have := hd 8 x
      omega
    omega
  rw [show ((elems x).length = cntB 64 x) from cnt_filter x 64, show (64 : Nat) = 8 * 8 by rfl, cnt_sum]
  exact ⟨by rw [ha]; omega, by rw [hb]; omega, hb3, hs.1, hs.2.1, hs.2.2.1, hs.2.2.2.1, hs.2.2.2.2⟩
end Go.Proofs.Ytkpmmojfnhfflaa
