/-
  Byte strings compared and copied; Verify of package checksum and of its reference: what each call answers; nothing that existed before has changed. Condition: at most 2^20 bytes.
-/
import Derived.Test.YtkadgmihaccogaaCApp
namespace Go.Proofs.Ytkadgmihaccogaa
open Go.RowKit

theorem same_any (u v : Value) (a b : List UInt8) (w : World) (hu : LstB w u a) (hv : LstB w v b) : Calls Try.prog 18 #[u, v] w fun e w' => e = .returned (.bool (decide (a = b))) ∧ w = w' := by
  have c1 := hu.conv
  have c2 := hv.conv
  have R := Lib.hid (str_same a b)
  obtain ⟨_, _, rfl, -⟩ := hu
  obtain ⟨_, _, rfl, -⟩ := hv
  generalize str a = s at c1 R
  generalize str b = t at c2 R
  go_enter Try.func18, Try.ntmps18
  go_wp2_with fail
  go_ret
  exact ⟨ret_bool R.out, rfl⟩
theorem equal_any (u v : Value) (a b : List UInt8) (w : World) (hu : LstB w u a) (hv : LstB w v b) : Calls Try.prog 25 #[u, v] w fun e w' => e = .returned (.bool (decide (a = b))) ∧ w = w' := by
  have c1 := hu.conv
  have c2 := hv.conv
  have R := Lib.hid (str_same a b)
  obtain ⟨_, _, rfl, -⟩ := hu
  obtain ⟨_, _, rfl, -⟩ := hv
  generalize str a = s at c1 R
  generalize str b = t at c2 R
  go_enter Try.func25, Try.ntmps25
  go_wp2_with fail
  go_ret
  exact ⟨ret_bool R.out, rfl⟩
theorem clone_any (v : Value) (l : List UInt8) (hl : l.length ≤ 1048576) (w : World) (h : LstB w v l) : GivesB 26 #[v] w l := by
  have hh := h
  obtain ⟨A, c, rfl, -, hn, -⟩ := hh
  cases A with
  | none =>
    obtain rfl := hn rfl
    have hl0 : l.length = 0 := by obtain ⟨_, _, hv, h1, _⟩ := h; cases hv; omega
    have hl1 : l = [] := List.length_eq_zero_iff.1 hl0
    subst hl1
    clear h hl0 hn
    simp only [List.length_nil]
    have SN : ∀ W, (binOp BinOp.eql 22 (.slice none 0 0) (.slice none 0 0)).run Try.prog W = .ok (.bool true) W := fun W => slice_is_nil 22 none 0 0 Try.underlying22 W
    go_enter Try.func26, Try.ntmps26
    go_wp2_with fail
    go_ret
    exact ⟨_, rfl, OwnB.nil _ _, Below.refl _ _⟩
  | some a =>
    have H := Lib.hid h
    clear h hn
    go_enter Try.func26, Try.ntmps26
    have o0 : OwnB (w.alloc (.cells #[] 5 (0, 0))) w.heap.size (.slice (some ⟨w.heap.size, 0, none⟩) 0 0) [] := World.ownsRow_lit w #[] 0 (Nat.le_refl _) (by unfold maxLen; omega) rfl
    have O0 := Lib.hid o0
    have SN : ∀ W, (binOp BinOp.eql 22 (.slice (some a) l.length c) (.slice none 0 0)).run Try.prog W = .ok (.bool false) W := fun W => slice_is_nil 22 (some a) l.length c Try.underlying22 W
    clear o0
    go_wp2_with (at_builtin; refine app_lstb _ rfl (.tmp 5) (.tmp 6) rfl w.heap.size _ [] l rfl O0.out _ rfl (H.out.below ((Below.refl _ _).alloc (Nat.le_refl _) _)) (by simp) (by simp; omega) ?_; intro v1 w2 own1 b2; have R : Hid (OwnB w2 w.heap.size v1 l ∧ Below w.heap.size w w2) := ⟨own1, ((Below.refl _ _).alloc (Nat.le_refl _) _).trans b2⟩; clear own1 b2)
    go_ret
    exact ⟨_, rfl, R.out⟩
/-- The error of Verify. -/
def verE (l : List UInt8) : Int := if l.length < 4 then 4 else if opens l then 0 else 38
/-- The byte string of Verify. -/
def verL (l : List UInt8) : List UInt8 := if l.length < 4 then [] else if opens l then l.take (l.length - 4) else []
theorem ver_short {l : List UInt8} (h : l.length < 4) : verE l = 4 ∧ verL l = [] := by unfold verE verL; simp [h]
theorem ver_bad {l : List UInt8} (h : ¬ l.length < 4) (ho : opens l = false) : verE l = 38 ∧ verL l = [] := by unfold verE verL; simp [h, ho]
theorem ver_good {l : List UInt8} (h : ¬ l.length < 4) (ho : opens l = true) : verE l = 0 ∧ verL l = l.take (l.length - 4) := by unfold verE verL; simp [h, ho]
/-- What Verify hands back. -/
abbrev Vers (f : FuncId) (args : Array Value) (w : World) (n : Int) (l : List UInt8) : Prop :=
  Calls Try.prog f args w fun e w' => ∃ u, e = .returned (.tuple #[u, .int .i64 n]) ∧ LstB w' u l ∧ Below w.heap.size w w'
theorem verify_any (v : Value) (l : List UInt8) (hl : l.length ≤ 1048576) (w : World) (h : LstB w v l) : Vers 17 #[v] w (verE l) (verL l) := by
  by_cases h4 : l.length < 4
  · rw [(ver_short h4).1, (ver_short h4).2]
    obtain ⟨A, c, rfl, -⟩ := h
    have g : (l.length : Int) - 4 < 0 := by omega
    go_enter Try.func17, Try.ntmps17
    go_wp2_with fail
    go_ret2
    exact ⟨_, rfl, LstB.nil _, Below.refl _ _⟩
  · have g : decide ((l.length : Int) - 4 < 0) = false := decide_eq_false (by omega)
    obtain ⟨x, S, hx⟩ := bts_to h (l.length - 4) (by omega) ((l.length : Int) - 4) (by omega)
    have M := Lib.hid (append_any x (l.take (l.length - 4)) (by rw [List.length_take]; omega) w hx)
    have HX := Lib.hid hx
    have H := Lib.hid h
    have hk : (l.take (l.length - 4)).length ≤ 1048576 := by rw [List.length_take]; omega
    cases ho : opens l with
    | false =>
      rw [(ver_bad h4 ho).1, (ver_bad h4 ho).2]
      unfold opens at ho
      generalize l.take (l.length - 4) = m at M HX ho hk
      have HO := Lib.hid ho
      obtain ⟨A, c, rfl, -⟩ := h
      clear hx h4 ho
      go_enter Try.func17, Try.ntmps17
      go_wp2_with fail
      refine M.out.mono ?_
      rintro e w1 ⟨u1, rfl, o1, b1⟩
      have E := Lib.hid (equal_any u1 (.slice A l.length c) _ _ w1 o1.lst (H.out.below b1))
      rw [HO.out] at E
      clear o1
      go_wp2_with fail
      refine E.out.mono ?_
      rintro e w' ⟨rfl, rfl⟩
      go_wp2_with fail
      go_ret2
      exact ⟨_, rfl, LstB.nil _, b1⟩
    | true =>
      rw [(ver_good h4 ho).1, (ver_good h4 ho).2]
      unfold opens at ho
      generalize l.take (l.length - 4) = m at M HX ho hk ⊢
      have HO := Lib.hid ho
      obtain ⟨A, c, rfl, -⟩ := h
      clear hx h4 ho
      go_enter Try.func17, Try.ntmps17
      go_wp2_with fail
      refine M.out.mono ?_
      rintro e w1 ⟨u1, rfl, o1, b1⟩
      have E := Lib.hid (equal_any u1 (.slice A l.length c) _ _ w1 o1.lst (H.out.below b1))
      rw [HO.out] at E
      have C := Lib.hid (clone_any x m hk w1 (HX.out.below b1))
      clear o1
      go_wp2_with fail
      refine E.out.mono ?_
      rintro e w' ⟨rfl, rfl⟩
      go_wp2_with fail
      refine C.out.mono ?_
      rintro e w2 ⟨u2, rfl, o2, b2⟩
      go_wp2_with fail
      go_ret2
      exact ⟨_, rfl, o2.lst, b1.trans (b2.mono b1.size)⟩
theorem rverify_any (v : Value) (l : List UInt8) (hl : l.length ≤ 1048576) (w : World) (h : LstB w v l) : Vers 20 #[v] w (verE l) (verL l) := by
  by_cases h4 : l.length < 4
  · rw [(ver_short h4).1, (ver_short h4).2]
    obtain ⟨A, c, rfl, -⟩ := h
    have g : (l.length : Int) - 4 < 0 := by omega
    go_enter Try.func20, Try.ntmps20
    go_wp2_with fail
    go_ret2
    exact ⟨_, rfl, LstB.nil _, Below.refl _ _⟩
  · have g : decide ((l.length : Int) - 4 < 0) = false := decide_eq_false (by omega)
    obtain ⟨x, S, hx⟩ := bts_to h (l.length - 4) (by omega) ((l.length : Int) - 4) (by omega)
    have M := Lib.hid (rappend_any x (l.take (l.length - 4)) (by rw [List.length_take]; omega) w hx)
    have HX := Lib.hid hx
    have H := Lib.hid h
    cases ho : opens l with
    | false =>
      rw [(ver_bad h4 ho).1, (ver_bad h4 ho).2]
      unfold opens at ho
      generalize l.take (l.length - 4) = m at M HX ho
      have HO := Lib.hid ho
      obtain ⟨A, c, rfl, -⟩ := h
      clear hx h4 ho
      go_enter Try.func20, Try.ntmps20
      go_wp2_with fail
      refine M.out.mono ?_
      rintro e w1 ⟨u1, rfl, o1, b1⟩
      have E := Lib.hid (same_any u1 (.slice A l.length c) _ _ w1 o1.lst (H.out.below b1))
      rw [HO.out] at E
      clear o1
      go_wp2_with fail
      refine E.out.mono ?_
      rintro e w' ⟨rfl, rfl⟩
      go_wp2_with fail
      go_ret2
      exact ⟨_, rfl, LstB.nil _, b1⟩
    | true =>
      rw [(ver_good h4 ho).1, (ver_good h4 ho).2]
      unfold opens at ho
      generalize l.take (l.length - 4) = m at M HX ho ⊢
      have HO := Lib.hid ho
      obtain ⟨A, c, rfl, -⟩ := h
      clear hx h4 ho
      go_enter Try.func20, Try.ntmps20
      go_wp2_with fail
      refine M.out.mono ?_
      rintro e w1 ⟨u1, rfl, o1, b1⟩
      have E := Lib.hid (same_any u1 (.slice A l.length c) _ _ w1 o1.lst (H.out.below b1))
      rw [HO.out] at E
      clear o1
      go_wp2_with fail
      refine E.out.mono ?_
      rintro e w' ⟨rfl, rfl⟩
      go_wp2_with fail
      go_ret2
      exact ⟨_, rfl, HX.out.below b1, b1⟩
end Go.Proofs.Ytkadgmihaccogaa
