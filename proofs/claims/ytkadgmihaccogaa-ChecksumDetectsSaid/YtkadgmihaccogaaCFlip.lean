/-
  Bits inverted (the reference's Flip): what the call answers; nothing that existed before has changed. Condition: at most 2^20 bytes, a first bit below 2^24, a pattern of 32 bits.
-/
import Derived.Test.YtkadgmihaccogaaCVer
import Derived.Laws.IdiomStrings
import Derived.BigRegion
namespace Go.Proofs.Ytkadgmihaccogaa
open Go.RowKit

/-! ### The row that a conversion of a string makes -/
def rowF (l : List UInt8) (cap : Nat) : List Value := bts l ++ List.replicate (cap - l.length) (.int .u8 0)
/-- Block g holds these bytes, and zeros up to the capacity. -/
def HasF (w : World) (g cap : Nat) (l : List UInt8) : Prop := l.length ≤ cap ∧ w.heap[g]? = some (.cells (rowF l cap).toArray 5 (cap, cap + 1))
theorem rowF_len {l : List UInt8} {cap : Nat} (h : l.length ≤ cap) : (rowF l cap).length = cap := by
  unfold rowF
  rw [List.length_append, List.length_map, List.length_replicate]
  omega
theorem HasF.cell {w : World} {g cap : Nat} {l : List UInt8} (h : HasF w g cap l) {j : Nat} {x : UInt8} (hx : l[j]? = some x) : w.cell? ⟨g, j, none⟩ = some (.int .u8 x.toNat) := by
  have hj := (List.getElem?_eq_some_iff.1 hx).1
  rw [cell_of_row w g j _ _ _ h.2, List.getElem?_toArray]
  unfold rowF
  rw [List.getElem?_append_left (by rw [List.length_map]; exact hj)]
  exact bts_at l j x hx
theorem HasF.free {w : World} {g cap : Nat} {l : List UInt8} (h : HasF w g cap l) {j : Nat} (hj : j < cap) : w.frozen? ⟨g, j, none⟩ = false := by
  simp [World.frozen?, h.2]
  omega
theorem HasF.there {w : World} {g cap : Nat} {l : List UInt8} (h : HasF w g cap l) {j : Nat} (hj : j < cap) : (w.cell? ⟨g, j, none⟩).isSome = true := by
  rw [cell_of_row w g j _ _ _ h.2, List.getElem?_toArray]
  rw [List.getElem?_eq_getElem (by rw [rowF_len h.1]; exact hj)]
  rfl
theorem HasF.lt {w : World} {g cap : Nat} {l : List UInt8} (h : HasF w g cap l) : g < w.heap.size := by
  rcases Nat.lt_or_ge g w.heap.size with h1 | h1
  · exact h1
  · have := h.2
    rw [Array.getElem?_eq_none h1] at this
    cases this
theorem HasF.put {w : World} {g cap : Nat} {l : List UInt8} (h : HasF w g cap l) {i : Nat} (hi : i < l.length) (y : UInt8) : HasF (w.setCell ⟨g, i, none⟩ (.int .u8 y.toNat)) g cap (l.set i y) := by
  refine ⟨by rw [List.length_set]; exact h.1, ?_⟩
  rw [setCell_eq_setRow w g i _ _ _ _ h.2, setRow_heap w g _ _ _ _ h.2]
  congr 2
  apply Array.ext_getElem?
  intro k
  rw [Array.getElem?_setIfInBounds, List.getElem?_toArray, List.getElem?_toArray, List.size_toArray, rowF_len h.1]
  have hc := h.1
  unfold rowF bts
  rw [List.length_set]
  by_cases hk : k < l.length
  · rw [List.getElem?_append_left (by simp; exact hk), List.getElem?_append_left (by simp; exact hk), List.getElem?_map, List.getElem?_map, List.getElem?_set]
    by_cases e : i = k
    · subst e
      rw [if_pos rfl, if_pos (by omega), if_pos rfl, if_pos hi]
      rfl
    · rw [if_neg e, if_neg e]
  · rw [if_neg (by omega), List.getElem?_append_right (by simp; omega), List.getElem?_append_right (by simp; omega)]
    simp
theorem HasF.lst {w : World} {g cap : Nat} {l : List UInt8} (h : HasF w g cap l) : LstB w (.slice (some ⟨g, 0, none⟩) l.length cap) l := by
  refine ⟨_, _, rfl, h.1, fun h => (by cases h), fun _ => ⟨g, 0, rfl, h.lt, fun j x hj => ?_⟩⟩
  rw [Nat.zero_add]
  have hl := (List.getElem?_eq_some_iff.1 hj).1
  rw [List.length_map] at hl
  obtain ⟨y, hy⟩ := at_lt hl
  rw [h.cell hy, ← hj]
  exact (bts_at l j y hy).symm
theorem below_cell {B g i : Nat} {w0 w : World} (hb : Below B w0 w) (hg : B ≤ g) (v : Value) : Below B w0 (w.setCell ⟨g, i, none⟩ v) := hb.setCell hg _
/-- []byte(s). -/
theorem to_bytes (l : List UInt8) (w : World) : ∃ cap w1, (convert 9 22 (.string (str l))).run Try.prog w = .ok (.slice (some ⟨w.heap.size, 0, none⟩) l.length cap) w1 ∧ HasF w1 w.heap.size cap l ∧ Below w.heap.size w w1 := by
  have hge := grownCap_ge w (str l).size 0 5
  have h := run_bytes_of_string (P := Try.prog) w 9 22 5 (str l) Try.underlying9 Try.underlying22 Try.underlying5
  generalize grownCap w (str l).size 0 5 = cap at h hge
  rw [size_str] at h hge
  have e : bytesRow (str l) cap = (rowF l cap).toArray := by
    unfold bytesRow rowF bts
    rw [size_str]
    apply Array.toList_inj.1
    simp
  have es : (rowF l cap).toArray.size = cap := by rw [List.size_toArray]; exact rowF_len hge
  rw [e, es] at h
  refine ⟨cap, _, h, ⟨hge, heap_alloc_new w.drew _⟩, ?_⟩
  exact (Below.refl _ _).drew.alloc (Nat.le_refl _) _

/-! ### The walk -/
theorem bit_one {p k : Nat} (h : p.testBit k = true) : p / 2 ^ k % 2 = 1 := by
  rw [Nat.testBit_eq_decide_div_mod_eq, decide_eq_true_iff] at h
  exact h
theorem bit_zero {p k : Nat} (h : p.testBit k = false) : p / 2 ^ k % 2 = 0 := by
  rw [Nat.testBit_eq_decide_div_mod_eq, decide_eq_false_iff_not] at h
  omega
theorem wrap_z (z : Nat) (h : z < 256) : IntKind.u8.wrap (z : Int) = (z : Int) := by rw [IntKind.wrap_u8]; omega
set_option maxHeartbeats 4000000 in
set_option maxRecDepth 10000 in
theorem flip_any (v : Value) (l : List UInt8) (hl : l.length ≤ 1048576) (a p : Nat) (ha : a ≤ 16777216) (hp : W32 p) (w : World) (h : LstB w v l) :
    Calls Try.prog 21 #[v, .int .i64 (a : Int), .int .u32 (p : Int)] w fun e w' =>
      ((∃ cap, e = .returned (.tuple #[.slice (some ⟨w.heap.size, 0, none⟩) l.length cap, .bool true]) ∧ HasF w' w.heap.size cap (flipN l a p 32) ∧ fitsN l.length a p 32) ∨
        (e = .returned (.tuple #[.slice none 0 0, .bool false]) ∧ ¬ fitsN l.length a p 32)) ∧ Below w.heap.size w w' := by
  have S1 := h.conv
  obtain ⟨cap, w1, S2, hf, hb1⟩ := to_bytes l w
  have F0 := Lib.hid hf
  have B0 := Lib.hid hb1
  have HP := Lib.hid hp
  obtain ⟨A, c, rfl, -⟩ := h
  generalize str l = s at S1 S2
  clear hf hb1 hp
  go_enter Try.func21, Try.ntmps21
  go_wp2_with fail
  go_loopw [9] (fun i wr => ∃ k : Nat, i = .int .i64 (k : Int) ∧ k ≤ 32 ∧ Hid (HasF wr w.heap.size cap (flipN l a p k)) ∧ Hid (Below w.heap.size w wr) ∧ Hid (fitsN l.length a p k)) (fun i _ => 32 - (intOf i).toNat)
  case atStart => exact ⟨0, rfl, Nat.zero_le _, F0, B0, Lib.hid (fun j hj => absurd hj (Nat.not_lt_zero _))⟩
  case round =>
    obtain ⟨k, rfl, hk, HF, HB, HN⟩ := hrel
    by_cases hlt : k < 32
    · have gk : (k : Int) < 32 := by omega
      have hr : W32 (p / 2 ^ k) := Nat.lt_of_le_of_lt (Nat.div_le_self _ _) HP.out
      have es : ((p : Int) / 2 ^ k) = ((p / 2 ^ k : Nat) : Int) := by rw [Int.natCast_ediv, Int.natCast_pow]; rfl
      have ea := and_1 (p / 2 ^ k) hr
      cases hb : p.testBit k with
      | false =>
        have F1 : Hid (HasF wr w.heap.size cap (flipN l a p (k + 1))) := by rw [flipN_skip _ _ _ _ hb]; exact HF
        have N1 : Hid (fitsN l.length a p (k + 1)) := fits_step HN.out fun e => by rw [hb] at e; cases e
        rw [bit_zero hb] at ea
        generalize p / 2 ^ k = r at es ea
        clear hr hb HF HN
        go_wp2_with fail
        go_roundw
        case rel => exact ⟨k + 1, by go_num, by omega, F1, HB, N1⟩
        case measure => simp [intOf]; omega
      | true =>
        rw [bit_one hb] at ea
        generalize p / 2 ^ k = r at es ea
        have E1 : ((a : Int) + (k : Int)).tdiv 8 = (((a + k) / 8 : Nat) : Int) := by
          rw [Int.tdiv_eq_ediv_of_nonneg (by omega)]
          omega
        have E1' : ((a : Int) + (k : Int)) / 8 = (((a + k) / 8 : Nat) : Int) := by omega
        by_cases hi : (a + k) / 8 < l.length
        · have hi' : decide (l.length ≤ (a + k) / 8) = false := decide_eq_false (by omega)
          have E2 : ((a : Int) + (k : Int)).tmod 8 = (((a + k) % 8 : Nat) : Int) := by
            rw [Int.tmod_eq_emod_of_nonneg (by omega)]
            omega
          have E2' : ((a : Int) + (k : Int)) % 8 = (((a + k) % 8 : Nat) : Int) := by omega
          have hfl : (flipN l a p k).length = l.length := flipN_length l a p k
          obtain ⟨x, hx⟩ := at_lt (l := flipN l a p k) (k := (a + k) / 8) (by rw [hfl]; exact hi)
          have m1 := HF.out.cell hx
          have m2 : wr.frozen? ⟨w.heap.size, (a + k) / 8, none⟩ = false := HF.out.free (Nat.lt_of_lt_of_le (by rw [hfl]; exact hi) HF.out.1)
          have hj : (a + k) % 8 < 8 := Nat.mod_lt _ (by decide)
          have h2p : 2 ^ ((a + k) % 8) < 256 := Nat.pow_lt_pow_right (n := 8) (by decide) hj
          have E3 : IntKind.u8.wrap (2 ^ ((a + k) % 8)) = ((2 ^ ((a + k) % 8) : Nat) : Int) := by
            rw [show (2 : Int) ^ ((a + k) % 8) = ((2 ^ ((a + k) % 8) : Nat) : Int) by simp]
            exact wrap_z _ h2p
          have E4 : bits .xor .u8 (x.toNat : Int) ((2 ^ ((a + k) % 8) : Nat) : Int) = ((flipX x ((a + k) % 8)).toNat : Int) := by
            rw [u8_xor_nat _ _ (byte_lt x) h2p, flipX_nat x _ hj]
          have F1 : Hid (HasF (wr.setCell ⟨w.heap.size, (a + k) / 8, none⟩ (.int .u8 ((flipX x ((a + k) % 8)).toNat : Int))) w.heap.size cap (flipN l a p (k + 1))) := by
            have := HF.out.put (i := (a + k) / 8) (by rw [hfl]; exact hi) (flipX x ((a + k) % 8))
            show HasF _ _ _ _
            rw [flipN_step _ _ _ _ hb]
            unfold flipB
            rw [List.getD_eq_getElem?_getD, hx, Option.getD_some]
            exact this
          have N1 : Hid (fitsN l.length a p (k + 1)) := fits_step HN.out fun _ => hi
          have gi : (((a + k) / 8 : Nat) : Int) < (l.length : Int) := by omega
          generalize flipX x ((a + k) % 8) = y at E4 F1
          generalize 2 ^ ((a + k) % 8) = z at E3 E4
          generalize (a + k) % 8 = j at E2 E2' E3
          generalize (a + k) / 8 = i at E1 E1' hi hi' m1 m2 F1 gi
          generalize x.toNat = xn at m1 E4
          generalize y.toNat = yn at F1 E4
          clear hr hb hx hj h2p hfl HF HN
          go_wp2_with fail
          go_region
          all_goals
            go_wp2_with fail
            go_roundw
            case rel => exact ⟨k + 1, by go_num, by omega, F1, Lib.hid (below_cell HB.out (Nat.le_refl _) _).drew, N1⟩
            case measure => simp [intOf]; omega
        · have hi' : l.length ≤ (a + k) / 8 := by omega
          have N1 := Lib.hid (show ¬ fitsN l.length a p 32 from fun hc => hi (hc k hlt hb))
          generalize (a + k) / 8 = i at E1 E1' hi hi'
          clear hr hb hi HF HN
          go_wp2_with fail
          go_ret2
          exact ⟨Or.inr ⟨rfl, N1.out⟩, HB.out⟩
    · obtain rfl : k = 32 := by omega
      have d : decide (((32 : Nat) : Int) < 32) = false := rfl
      clear hlt hk
      go_wp2_with fail
      go_ret2
      exact ⟨Or.inl ⟨_, rfl, HF.out, HN.out⟩, HB.out⟩
end Go.Proofs.Ytkadgmihaccogaa
