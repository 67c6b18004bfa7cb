/-
  The reference's test of a text against a pattern: what the call answers; nothing that existed before the call has changed behind it. Condition: the pattern has at most 100 bytes.
-/
import Derived.Test.YtalghfmdaifcgaaDoorDScan
import Derived.Deep.QuietTactic
import Derived.BigQuiet
namespace Go.Proofs.YtalghfmdaifcgaaDoor
open Go.RowKit

theorem okP_zero (p c : UInt8) (hp : p.toNat = 48) : okP p c = true ↔ 48 ≤ c.toNat ∧ c.toNat ≤ 57 := by
  obtain rfl : p = 48 := UInt8.toNat_inj.1 hp
  rw [okP_digit, dig_iff]
theorem okP_byte (p c : UInt8) (hp : p.toNat ≠ 48) : okP p c = true ↔ c.toNat = p.toNat := by
  have hn : p ≠ 48 := fun h => hp (by rw [h]; rfl)
  rw [okP_other p c hn, beq_iff_eq]
  exact ⟨fun h => by rw [h], fun h => UInt8.toNat_inj.1 h⟩
set_option maxHeartbeats 1000000 in
theorem shaped_any (s p : ByteArray) (hp100 : p.size ≤ 100) (w : World) :
    Calls Tryd.prog 48 #[.string s, .string p] w fun e w' => e = .returned (.bool (fits p.data.toList s.data.toList)) ∧ Below w.heap.size w w' := by
  by_cases hsz : s.size = p.size
  · have nsz : ((s.size : Int) != (p.size : Int)) = false := by rw [hsz]; simp
    have hps : p.size = s.size := hsz.symm
    have HS := Lib.hid hps
    have HF := Lib.hid (fits_iff p.data.toList s.data.toList)
    have hs : s.size ≤ 100 := by omega
    clear hsz hps
    go_enter Tryd.func48, Tryd.ntmps48
    go_wp2_with fail
    go_loopw [5] (fun i w' => ∃ k : Nat, k ≤ s.size ∧ i = .int .i64 k ∧ Below w.heap.size w w' ∧ Hid (∀ (j : Nat) a c, j < k → p.data.toList[j]? = some a → s.data.toList[j]? = some c → okP a c = true)) (fun i _ => s.size - (intOf i).toNat)
    case atStart => exact ⟨0, by omega, rfl, Below.refl _ _, Lib.hid (fun j a c hj => absurd hj (Nat.not_lt_zero _))⟩
    case round =>
      clear nsz
      obtain ⟨k, hk, rfl, hb, ht⟩ := hrel
      by_cases hlt : k < s.size
      · have hpk : k < p.size := by have := HS.out; omega
        have kk := run_at s k hlt
        have kp := run_at p k hpk
        have hi : (k : Int) < (s.size : Int) := by omega
        have hpi : (k : Int) < (p.size : Int) := by omega
        cases hx : okP p[k] s[k] with
        | true =>
          have hst : Hid (∀ (j : Nat) a c, j < k + 1 → p.data.toList[j]? = some a → s.data.toList[j]? = some c → okP a c = true) := by
            intro j a c hj ha hl
            by_cases hjk : j < k
            · exact ht.out j a c hjk ha hl
            · obtain rfl : j = k := by omega
              rw [list_at s j hlt] at hl
              rw [list_at p j hpk] at ha
              cases hl
              cases ha
              exact hx
          by_cases h48 : p[k].toNat = 48
          · have hc := (okP_zero p[k] s[k] h48).1 hx
            have b1 : (((p[k].toNat : Nat) : Int) == 48) = true := by rw [h48]; rfl
            have b2 : (((p[k].toNat : Nat) : Int) != 48) = false := by rw [h48]; rfl
            have c1 : decide (((s[k].toNat : Nat) : Int) < 48) = false := by simp; omega
            have c2 : decide ((57 : Int) < ((s[k].toNat : Nat) : Int)) = false := by simp; omega
            clear hx h48
            go_wp2_with fail
            go_quiet (fail)
            have hb2 := below_drewN hb nq
            generalize World.drewN _ nq = w2 at hb2 ⊢
            go_wp2_with fail
            go_roundw
            case rel => exact ⟨k + 1, by omega, by go_num, hb2, hst⟩
            case measure => simp [intOf]; omega
          · have hc := (okP_byte p[k] s[k] h48).1 hx
            have b1 : (((p[k].toNat : Nat) : Int) == 48) = false := beq_no (by omega)
            have b2 : (((p[k].toNat : Nat) : Int) != 48) = true := bne_true (by omega)
            have b3 : (((s[k].toNat : Nat) : Int) != ((p[k].toNat : Nat) : Int)) = false := by rw [hc]; simp
            clear hx h48 hc
            go_wp2_with fail
            go_quiet (fail)
            have hb2 := below_drewN hb nq
            generalize World.drewN _ nq = w2 at hb2 ⊢
            go_wp2_with fail
            go_roundw
            case rel => exact ⟨k + 1, by omega, by go_num, hb2, hst⟩
            case measure => simp [intOf]; omega
        | false =>
          have hv : fits p.data.toList s.data.toList = false := fits_not _ _ k _ _ (list_at p k hpk) (list_at s k hlt) hx
          have HV := Lib.hid hv
          clear hv
          by_cases h48 : p[k].toNat = 48
          · have hc : ¬ (48 ≤ s[k].toNat ∧ s[k].toNat ≤ 57) := by
              intro hc
              rw [(okP_zero p[k] s[k] h48).2 hc] at hx
              cases hx
            have b1 : (((p[k].toNat : Nat) : Int) == 48) = true := by rw [h48]; rfl
            have b2 : (((p[k].toNat : Nat) : Int) != 48) = false := by rw [h48]; rfl
            clear hx h48
            by_cases c1 : ((s[k].toNat : Nat) : Int) < 48
            · clear hc
              go_wp2_with fail
              go_quiet (fail)
              have hb2 := below_drewN hb nq
              generalize World.drewN _ nq = w2 at hb2 ⊢
              go_wp2_with fail
              go_ret
              exact ⟨ret_bool HV.out.symm, hb2⟩
            · have c2 : (57 : Int) < ((s[k].toNat : Nat) : Int) := by omega
              have c1 : decide (((s[k].toNat : Nat) : Int) < 48) = false := by simp; omega
              clear hc
              go_wp2_with fail
              go_quiet (fail)
              have hb2 := below_drewN hb nq
              generalize World.drewN _ nq = w2 at hb2 ⊢
              go_wp2_with fail
              go_ret
              exact ⟨ret_bool HV.out.symm, hb2⟩
          · have hc : s[k].toNat ≠ p[k].toNat := by
              intro hc
              rw [(okP_byte p[k] s[k] h48).2 hc] at hx
              cases hx
            have b1 : (((p[k].toNat : Nat) : Int) == 48) = false := beq_no (by omega)
            have b2 : (((p[k].toNat : Nat) : Int) != 48) = true := bne_true (by omega)
            have b3 : (((s[k].toNat : Nat) : Int) != ((p[k].toNat : Nat) : Int)) = true := bne_true (by omega)
            clear hx h48 hc
            go_wp2_with fail
            go_quiet (fail)
            have hb2 := below_drewN hb nq
            generalize World.drewN _ nq = w2 at hb2 ⊢
            go_wp2_with fail
            go_ret
            exact ⟨ret_bool HV.out.symm, hb2⟩
      · have hv := HF.out.2 ⟨HS.out.symm, fun j a c ha hl => ht.out j a c (by have := (List.getElem?_eq_some_iff.1 hl).1; have h9 : j < s.size := this; omega) ha hl⟩
        have HV := Lib.hid hv
        clear hv
        go_wp2_with fail
        go_ret
        exact ⟨ret_bool HV.out.symm, hb⟩
  · have nsz : ((s.size : Int) != (p.size : Int)) = true := bne_true (by omega)
    have hv := Lib.hid (fits_short p.data.toList s.data.toList hsz)
    clear hsz
    go_enter Tryd.func48, Tryd.ntmps48
    go_wp2_with fail
    go_ret
    exact ⟨ret_bool hv.out.symm, Below.refl _ _⟩
end Go.Proofs.YtalghfmdaifcgaaDoor
