/-
  The law HeapStrings: true for every input, nothing that existed has changed. Condition: none.
-/
import Derived.Test.YtnmomkldlajimaaSDrn
import Derived.Test.YtnmomkldlajimaaHEx2
import Derived.Test.YtnmomkldlajimaaLst
namespace Go.Proofs.Ytnmomkldlajimaa.S
open Go.RowKit

theorem bl_asym : ∀ x y : List UInt8, Op.bytesLess x y = true → Op.bytesLess y x = false
  | _, [], h => by simp [Op.bytesLess] at h
  | [], _ :: _, _ => by simp [Op.bytesLess]
  | a :: x, b :: y, h => by
    simp only [Op.bytesLess, Bool.or_eq_true, decide_eq_true_eq, Bool.and_eq_true, beq_iff_eq] at h
    rcases h with h | ⟨rfl, h⟩
    · have h1 : ¬ b < a := UInt8.lt_asymm h
      have h2 : b ≠ a := fun e => by subst e; exact h1 h
      simp [Op.bytesLess, h1, h2]
    · simp [Op.bytesLess, UInt8.lt_irrefl, bl_asym x y h]
theorem bl_tri : ∀ x y : List UInt8, Op.bytesLess x y = false → Op.bytesLess y x = true ∨ y = x
  | [], [], _ => .inr rfl
  | _ :: _, [], _ => .inl (by simp [Op.bytesLess])
  | [], _ :: _, h => by simp [Op.bytesLess] at h
  | a :: x, b :: y, h => by
    simp only [Op.bytesLess, Bool.or_eq_false_iff, decide_eq_false_iff_not, Bool.and_eq_false_iff, beq_eq_false_iff_ne] at h
    by_cases e : a = b
    · subst e
      rcases h.2 with h2 | h2
      · exact absurd rfl h2
      · rcases bl_tri x y h2 with h3 | h3
        · exact .inl (by simp [Op.bytesLess, h3])
        · exact .inr (by rw [h3])
    · have h1 : b < a := by
        rcases UInt8.lt_or_lt_of_ne e with h3 | h3
        · exact absurd h3 h.1
        · exact h3
      exact .inl (by simp [Op.bytesLess, h1])
theorem bl_trans : ∀ x y z : List UInt8, Op.bytesLess x y = true → Op.bytesLess y z = true → Op.bytesLess x z = true
  | _, [], _, h, _ => by simp [Op.bytesLess] at h
  | _, _ :: _, [], _, h => by simp [Op.bytesLess] at h
  | [], _ :: _, _ :: _, _, _ => by simp [Op.bytesLess]
  | a :: x, b :: y, c :: z, h, k => by
    simp only [Op.bytesLess, Bool.or_eq_true, decide_eq_true_eq, Bool.and_eq_true, beq_iff_eq] at h k ⊢
    rcases h with h | ⟨rfl, h⟩
    · rcases k with k | ⟨rfl, k⟩
      · exact .inl (UInt8.lt_trans h k)
      · exact .inl h
    · rcases k with k | ⟨rfl, k⟩
      · exact .inl k
      · exact .inr ⟨rfl, bl_trans x y z h k⟩
def lStr (a b : Pr) : Bool := Op.bytesLess a.toList b.toList
theorem str_ord : IsOrd lStr := by
  refine ⟨fun a b h => bl_asym _ _ h, fun a b c h1 h2 => ?_⟩
  unfold lStr at *
  cases h : Op.bytesLess a.toList c.toList with
  | false => rfl
  | true =>
    rcases bl_tri _ _ h1 with k | k
    · have := bl_trans _ _ _ k h
      rw [h2] at this; cases this
    · rw [k] at h2; rw [h2] at h; cases h
theorem less_str (a b : Pr) (w : World) : Calls Try.prog 25 #[.string a, .string b] w fun e w' => e = .returned (.bool (lStr a b)) ∧ w = w' := by
  go_enter Try.func25, Try.ntmps25
  go_wp2_with fail
  go_ret
  exact ⟨rfl, rfl⟩
theorem fun_str : Fun (.func (.func 25) #[] #[]) lStr := ⟨_, rfl, enter_of Try.func25 (by kernel_rfl) (by kernel_rfl), fun a b _ _ W => still (less_str a b W)⟩
theorem sorted_next (l : List Pr) {i : Nat} {x y : Pr} (hy : (sortH lStr l)[i]? = some y) (hx : (sortH lStr l)[i + 1]? = some x) : Op.bytesLess y.toList x.toList = true ∨ (y.toList == x.toList) = true := by
  obtain ⟨D, h1, h2, h3⟩ := drain_sorted str_ord (pushAll lStr [] 0 l) (pushAll_heap str_ord l [] 0 Hp.nil)
  unfold sortH at hx hy
  rw [h1, List.getElem?_map] at hx hy
  obtain ⟨d, hd, rfl⟩ := Option.map_eq_some_iff.1 hy
  obtain ⟨e, he, rfl⟩ := Option.map_eq_some_iff.1 hx
  obtain ⟨i1, i2⟩ := List.getElem?_eq_some_iff.1 hd
  obtain ⟨j1, j2⟩ := List.getElem?_eq_some_iff.1 he
  have hn := (List.pairwise_iff_getElem.1 h3) i (i + 1) i1 j1 (by omega)
  rw [i2, j2, nb_iff] at hn
  rcases bl_tri _ _ hn.1 with h | h
  · exact .inl h
  · exact .inr (by rw [beq_iff_eq]; exact h)
/-- How often a string stands in a list. -/
def cnt (l : List Pr) (s : Pr) : Nat := (l.filter fun t => decide (t = s)).length
theorem cnt_perm {l m : List Pr} (h : l.Perm m) (s : Pr) : cnt l s = cnt m s := (h.filter _).length_eq
theorem cnt_le (l : List Pr) (s : Pr) : cnt l s ≤ l.length := List.length_filter_le _ _
theorem cnt_take {l : List Pr} {k : Nat} {x : Pr} (h : l[k]? = some x) (s : Pr) : cnt (l.take (k + 1)) s = cnt (l.take k) s + if x = s then 1 else 0 := by
  unfold cnt
  rw [take_one l k x h, List.filter_append, List.length_append]
  by_cases e : x = s
  · simp [e]
  · simp [e]
set_option maxHeartbeats 1000000 in
theorem times_any (v : Value) (l : List Pr) (s : Pr) (hl : l.length ≤ 1000000) (w : World) (h : LstP w v l) : Calls Try.prog 26 #[v, .string s] w fun e w' => e = .returned (.int .i64 ((cnt l s : Nat) : Int)) ∧ w = w' := by
  have hh := h
  obtain ⟨A, c, rfl, -⟩ := hh
  have H := Lib.hid h
  clear h
  go_enter Try.func26, Try.ntmps26
  go_wp2_with fail
  go_loop [5, 10] (fun n u => ∃ k : Nat, u = .int .i64 (k : Int) ∧ k ≤ l.length ∧ n = .int .i64 ((cnt (l.take k) s : Nat) : Int)) (fun _ u => l.length - (intOf u).toNat)
  case atStart => exact ⟨0, rfl, Nat.zero_le _, rfl⟩
  case round =>
    obtain ⟨k, rfl, hk, rfl⟩ := hrel
    by_cases hlt : k < l.length
    · obtain ⟨x, hx⟩ := at_lt hlt
      obtain ⟨b, o, c', hv, hb, x0⟩ := LstG.one H.out hx
      cases hv
      have E := cnt_take hx s
      have hle := cnt_le (l.take k) s
      rw [List.length_take] at hle
      have gk : (k : Int) < (l.length : Int) := by omega
      obtain ⟨n, hn⟩ : ∃ n, cnt (l.take k) s = n := ⟨_, rfl⟩
      rw [hn] at E hle
      rw [hn]
      have hnb : n ≤ 1000000 := by omega
      by_cases e : x = s
      · rw [if_pos e] at E
        have q := bytes_eq e
        have EE := Lib.hid E
        clear E hn hle hx e
        go_wp2_with fail
        go_round
        case rel => exact ⟨k + 1, by go_num, by omega, by rw [EE.out]; go_num⟩
        case measure => simp [intOf]; omega
      · rw [if_neg e] at E
        have q := bytes_ne e
        have EE := Lib.hid E
        clear E hn hle hx e
        go_wp2_with fail
        go_round
        case rel => exact ⟨k + 1, by go_num, by omega, by rw [EE.out]; rfl⟩
        case measure => simp [intOf]; omega
    · have hkl : k = l.length := by omega
      subst hkl
      have d : decide (l.length < l.length) = false := by simp
      clear H
      go_wp2_with fail
      go_ret
      exact ⟨rfl, rfl⟩
/-- A slice of strings, read as a slice of structs of one cell. -/
theorem lst_lstP {w : World} {v : Value} {l : List (List UInt8)} (h : Lst w v l) : LstP w v (l.map str) := by
  obtain ⟨A, c, hv, ⟨hc, hn⟩, hx⟩ := h
  have e : fl pc (l.map str) = sts l := by
    clear hv hc hx
    induction l with
    | nil => rfl
    | cons a r ih => rw [List.map_cons, fl_cons, ih]; rfl
  exact ⟨A, c, by rw [List.length_map]; exact hv, by rw [List.length_map]; exact hc, hn, fun h0 => by rw [List.length_map] at h0; rw [e]; exact hx h0⟩
end Go.Proofs.Ytnmomkldlajimaa.S
