/-
  Plain facts about the runes of a text: a rune that begins at a byte of 128 or more covers bytes of 128 or more alone, and ends within the text. No program. Condition: none beyond each theorem's own hypotheses.
-/
import Derived.Laws.RangeAny
namespace Go.Proofs.YtpdekihfgglmkaaDoor
open Go

theorem skip_get (s : ByteArray) (pos : Nat) : ∀ j, 1 ≤ j → j < (Utf8.decode s pos).2 → pos + j < s.size ∧ (s.get! (pos + j)).toNat / 64 = 2 := by
  intro j h1 h2
  simp only [Utf8.decode] at h2
  split at h2
  · omega
  · split at h2
    · next h =>
      split at h2
      · have : j = 1 := by simp at h2; omega
        subst this
        simp at h
        exact h.2
      · simp at h2; omega
    · split at h2
      · next h =>
        split at h2
        · have : j = 1 ∨ j = 2 := by simp at h2; omega
          simp at h
          rcases this with rfl | rfl
          · exact h.1.2
          · exact h.2
        · simp at h2; omega
      · split at h2
        · next h =>
          split at h2
          · have : j = 1 ∨ j = 2 ∨ j = 3 := by simp at h2; omega
            simp at h
            rcases this with rfl | rfl | rfl
            · exact h.1.1.2
            · exact h.1.2
            · exact h.2
          · simp at h2; omega
        · simp at h2; omega
/-- The bytes behind the first one of a rune. -/
theorem skip_high (s : ByteArray) (pos j : Nat) (h1 : 1 ≤ j) (h2 : j < (Utf8.decode s pos).2) : ∃ c, s.data.toList[pos + j]? = some c ∧ 128 ≤ c.toNat := by
  obtain ⟨h3, h4⟩ := skip_get s pos j h1 h2
  refine ⟨s[pos + j], ?_, ?_⟩
  · rw [List.getElem?_eq_getElem (by simpa using h3)]; rfl
  · have := get_at s (pos + j) h3
    rw [Nat.add_zero] at this
    rw [this] at h4
    omega
theorem skip_in (s : ByteArray) (pos : Nat) (h : pos < s.size) : pos + (Utf8.decode s pos).2 ≤ s.size := by
  rcases Nat.lt_or_ge 1 (Utf8.decode s pos).2 with hk | hk
  · have := (skip_get s pos ((Utf8.decode s pos).2 - 1) (by omega) (by omega)).1
    omega
  · omega
/-- What holds of every byte of 128 or more, and of the bytes before a rune that begins with one, holds of the bytes before its end. -/
theorem take_skip (p : UInt8 → Bool) (hp : ∀ c : UInt8, 128 ≤ c.toNat → p c = true) (s : ByteArray) (pos : Nat) (h : pos < s.size) (ha : 128 ≤ s[pos].toNat) (ht : (s.data.toList.take pos).all p = true) :
    (s.data.toList.take (pos + (Utf8.decode s pos).2)).all p = true := by
  rw [List.all_eq_true] at *
  intro c hc
  obtain ⟨i, hi⟩ := List.mem_iff_getElem?.1 hc
  rw [List.getElem?_take] at hi
  split at hi
  · next hlt =>
    rcases Nat.lt_or_ge i pos with h1 | h1
    · exact ht c (List.mem_iff_getElem?.2 ⟨i, by rw [List.getElem?_take, if_pos h1]; exact hi⟩)
    · by_cases he : i = pos
      · subst he
        rw [List.getElem?_eq_getElem (by simpa using h)] at hi
        obtain rfl := Option.some.inj hi
        exact hp _ ha
      · obtain ⟨d, hd, h128⟩ := skip_high s pos (i - pos) (by omega) (by omega)
        rw [show pos + (i - pos) = i by omega] at hd
        rw [hd] at hi
        obtain rfl := Option.some.inj hi
        exact hp _ h128
  · cases hi
end Go.Proofs.YtpdekihfgglmkaaDoor
