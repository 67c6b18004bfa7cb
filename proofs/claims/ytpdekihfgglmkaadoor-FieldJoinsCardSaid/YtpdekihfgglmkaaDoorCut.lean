/-
  strings.Cut at a separator of one byte, and strings.CutSuffix at one byte: what each call answers. Condition: none beyond each theorem's own hypotheses.
-/
import Derived.Test.YtpdekihfgglmkaaDoorBase
import Derived.Test.YtpdekihfgglmkaaDoorShelf
import Derived.Deep.QuietTactic
import Derived.BigQuiet
import Derived.Lib.IndexLaws
namespace Go.Proofs.YtpdekihfgglmkaaDoor
open Go.RowKit

theorem index_hit (c : UInt8) (post : List UInt8) : ∀ pre : List UInt8, c ∉ pre → Lib.indexByte (pre ++ c :: post) c = pre.length
  | [], _ => by simp [Lib.indexByte]
  | b :: l, h => by
    have hb : (b == c) = false := by rw [beq_eq_false_iff_ne]; rintro rfl; exact h (by simp)
    have hl : c ∉ l := fun hx => h (by simp [hx])
    have ih := index_hit c post l hl
    have hn : (((l.length : Nat) : Int) == -1) = false := by rw [beq_eq_false_iff_ne]; omega
    simp [Lib.indexByte, hb, ih, hn]
theorem index_miss (c : UInt8) : ∀ l : List UInt8, c ∉ l → Lib.indexByte l c = -1
  | [], _ => rfl
  | b :: l, h => by
    have hb : (b == c) = false := by rw [beq_eq_false_iff_ne]; rintro rfl; exact h (by simp)
    have hl : c ∉ l := fun hx => h (by simp [hx])
    have ih := index_miss c l hl
    simp [Lib.indexByte, hb, ih]

theorem extract_pre (pre post : List UInt8) (c : UInt8) : (str (pre ++ c :: post)).extract 0 pre.length = str pre := by
  rw [Lib.extract_eq]; simp
theorem extract_post (pre post : List UInt8) (c : UInt8) : (str (pre ++ c :: post)).extract (pre.length + 1) (str (pre ++ c :: post)).size = str post := by
  rw [Lib.extract_eq]
  have : (str (pre ++ c :: post)).size = pre.length + post.length + 1 := by show (pre ++ c :: post).toArray.size = _; simp; omega
  rw [this]
  simp

theorem ret_cut {a b a' b' : ByteArray} {t : Bool} (h : a = a') (k : b = b') : Ending.returned (.tuple #[.string a, .string b, .bool t]) = .returned (.tuple #[.string a', .string b', .bool t]) := by rw [h, k]
theorem scut_miss (c : UInt8) (l : List UInt8) (h : c ∉ l) (w : World) :
    Calls Tryd.prog 52 #[.string (str l), .string ⟨#[c]⟩] w fun e w' => e = .returned (.tuple #[.string (str l), .string (str []), .bool false]) ∧ Below w.heap.size w w' := by
  have hc := Tryd.stringslite_Index_one (str l) c
  have hi : Lib.indexByte (str l).data.toList c = -1 := index_miss c l h
  rw [hi] at hc
  have HC := Lib.hid hc
  clear hc hi h
  go_enter Tryd.func52, Tryd.ntmps52
  go_wp2_with (go_at_call 58; refine (HC.out _).mono ?_; rintro e w' ⟨rfl, rfl⟩)
  go_ret3
  exact ⟨rfl, Below.refl _ _⟩
theorem scut_hit (c : UInt8) (pre post : List UInt8) (h : c ∉ pre) (hl : (pre ++ c :: post).length ≤ 9223372036854775807) (w : World) :
    Calls Tryd.prog 52 #[.string (str (pre ++ c :: post)), .string ⟨#[c]⟩] w fun e w' => e = .returned (.tuple #[.string (str pre), .string (str post), .bool true]) ∧ Below w.heap.size w w' := by
  have hc := Tryd.stringslite_Index_one (str (pre ++ c :: post)) c
  have hi : Lib.indexByte (str (pre ++ c :: post)).data.toList c = pre.length := index_hit c post pre h
  rw [hi] at hc
  have HC := Lib.hid hc
  have e1 := extract_pre pre post c
  have e2 := extract_post pre post c
  obtain ⟨s, hs⟩ : ∃ s, s = str (pre ++ c :: post) := ⟨_, rfl⟩
  have hz : s.size = pre.length + post.length + 1 := by rw [hs]; show (pre ++ c :: post).toArray.size = _; simp; omega
  have hz2 : s.size ≤ 9223372036854775807 := by rw [hz]; simp at hl; omega
  rw [← hs] at e1 e2 HC ⊢
  clear hc hi h hs hl
  obtain ⟨n, hn⟩ : ∃ n : Nat, n = pre.length := ⟨_, rfl⟩
  rw [← hn] at e1 e2 HC hz
  have c1 : (0 : Int) ≤ ↑n := by omega
  have c2 : (↑n : Int) ≤ ↑s.size := by omega
  have c3 : (0 : Int) ≤ ↑n + 1 := by omega
  have c4 : (↑n + 1 : Int) ≤ ↑s.size := by omega
  have c5 : IntKind.i64.wrap (↑n + 1) = ↑n + 1 := IntWalk.i64_in _ (by omega)
  clear hn hz
  have E1 := Lib.hid e1
  have E2 := Lib.hid e2
  clear e1 e2
  go_enter Tryd.func52, Tryd.ntmps52
  go_wp2_with (go_at_call 58; refine (HC.out _).mono ?_; rintro e w' ⟨rfl, rfl⟩)
  go_region
  go_wp2
  go_ret3
  exact ⟨ret_cut E1.out E2.out, (Below.refl _ _).drew⟩
theorem cut_miss (c : UInt8) (l : List UInt8) (h : c ∉ l) (w : World) :
    Calls Tryd.prog 42 #[.string (str l), .string ⟨#[c]⟩] w fun e w' => e = .returned (.tuple #[.string (str l), .string (str []), .bool false]) ∧ Below w.heap.size w w' := by
  have HC := Lib.hid (scut_miss c l h)
  clear h
  go_enter Tryd.func42, Tryd.ntmps42
  go_wp2_with fail
  refine (HC.out _).mono ?_
  rintro e w1 ⟨rfl, b1⟩
  go_wp2_with fail
  go_ret3
  exact ⟨rfl, b1⟩
theorem cut_hit (c : UInt8) (pre post : List UInt8) (h : c ∉ pre) (hl : (pre ++ c :: post).length ≤ 9223372036854775807) (w : World) :
    Calls Tryd.prog 42 #[.string (str (pre ++ c :: post)), .string ⟨#[c]⟩] w fun e w' => e = .returned (.tuple #[.string (str pre), .string (str post), .bool true]) ∧ Below w.heap.size w w' := by
  have HC := Lib.hid (scut_hit c pre post h hl)
  clear h hl
  generalize pre ++ c :: post = l at HC ⊢
  go_enter Tryd.func42, Tryd.ntmps42
  go_wp2_with fail
  refine (HC.out _).mono ?_
  rintro e w1 ⟨rfl, b1⟩
  go_wp2_with fail
  go_ret3
  exact ⟨rfl, b1⟩

theorem suffix_hit (c : UInt8) (l : List UInt8) (h : (l ++ [c]).length ≤ 9223372036854775807) (w : World) :
    Calls Tryd.prog 37 #[.string (str (l ++ [c])), .string ⟨#[c]⟩] w fun e w' => e = .returned (.tuple #[.string (str l), .bool true]) ∧ w = w' := by
  have hc := Tryd.strings_CutSuffix (str (l ++ [c])) ⟨#[c]⟩ w h
  have h1 : Lib.hasSuffix (str (l ++ [c])).data.toList (⟨#[c]⟩ : ByteArray).data.toList = true := by
    show List.isSuffixOf [c] (l ++ [c]) = true
    rw [List.isSuffixOf_iff_suffix]
    exact List.suffix_append _ _
  have h2 : Lib.trimSuffix (str (l ++ [c])).data.toList (⟨#[c]⟩ : ByteArray).data.toList = l := by
    unfold Lib.trimSuffix
    rw [h1, if_pos rfl]
    simp
  rw [h1, h2] at hc
  exact hc.mono fun _ _ ⟨he, hw⟩ => ⟨he, hw.symm⟩
theorem suffix_miss (c : UInt8) (l : List UInt8) (hn : List.isSuffixOf [c] l = false) (h : l.length ≤ 9223372036854775807) (w : World) :
    Calls Tryd.prog 37 #[.string (str l), .string ⟨#[c]⟩] w fun e w' => e = .returned (.tuple #[.string (str l), .bool false]) ∧ w = w' := by
  have hc := Tryd.strings_CutSuffix (str l) ⟨#[c]⟩ w h
  have h1 : Lib.hasSuffix (str l).data.toList (⟨#[c]⟩ : ByteArray).data.toList = false := hn
  have h2 : Lib.trimSuffix (str l).data.toList (⟨#[c]⟩ : ByteArray).data.toList = l := by
    unfold Lib.trimSuffix
    rw [h1]
    rfl
  rw [h1, h2] at hc
  exact hc.mono fun _ _ ⟨he, hw⟩ => ⟨he, hw.symm⟩
end Go.Proofs.YtpdekihfgglmkaaDoor
