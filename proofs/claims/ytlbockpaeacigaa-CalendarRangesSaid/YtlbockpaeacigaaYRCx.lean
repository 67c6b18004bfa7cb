/-
  The reference's CheckExceptions: what the call answers; it only draws. Condition: none beyond lengths of 63 bits.
-/
import Derived.Test.YtlbockpaeacigaaYRRsn
namespace Go.Proofs.Ytlbockpaeacigaa
open Go.RowKit

set_option maxRecDepth 100000 in
set_option maxHeartbeats 4000000 in
theorem rcx_any (v : Value) (l : List Ex) (n : Int) (hl : l.length ≤ 9223372036854775807) (w : World) (h : LstX w v l) : Calls Try.prog 16 #[v, .int .i64 n] w fun e w' => e = .returned (.tuple #[.int .i64 ((chkX n l).1), .int .i64 ((chkX n l).2)]) ∧ ∃ m, w' = w.drewN m := by
  have H := Lib.hid h
  obtain ⟨A, c, rfl, -, -, -⟩ := h
  by_cases h64 : 256 < l.length
  · have R := Lib.hid (chkX_many (n := n) h64)
    have g : (256 : Int) < (l.length : Int) := by omega
    generalize chkX n l = q at R ⊢
    clear h64
    go_enter Try.func16, Try.ntmps16
    go_wp2_with fail
    go_ret2
    exact ⟨ret_chk (by rw [R.out]) (by rw [R.out]), 0, rfl⟩
  have g : decide ((256 : Int) < (l.length : Int)) = false := by rw [decide_eq_false_iff_not]; omega
  have ST := Lib.hid (chkX_start (n := n) (l := l) (by omega))
  have h64' : l.length ≤ 256 := by omega
  generalize chkX n l = q at ST ⊢
  clear h64
  go_enter Try.func16, Try.ntmps16
  go_wp2_with fail
  go_loopw [6] (fun i wr => ∃ k : Nat, i = .int .i64 k ∧ k ≤ l.length ∧ Hid (q = fbF (badX n) plX ((l.take k).map plX) k (l.drop k)) ∧ Hid (∃ n, wr = w.drewN n)) (fun i _ => l.length - (intOf i).toNat)
  case atStart => exact ⟨0, rfl, Nat.zero_le _, ST, Lib.hid ⟨0, rfl⟩⟩
  case round =>
    clear g ST
    obtain ⟨k, rfl, hk, hz, hn⟩ := hrel
    by_cases hlt : k < l.length
    · obtain ⟨⟨ki, di, fi⟩, hx⟩ := at_lt hlt
      obtain ⟨b, o, rfl, hb, r0, r1, -⟩ := three_at (H.out.below (drew_below hn.out)) hx
      have gk : (k : Int) < (l.length : Int) := by omega
      have RR := Lib.hid (fun h => fb_stop hz.out hx (badX_ref (n := n) (seen := (l.take k).map plX) (e := (ki, di, fi)) h) (by decide))
      have RD := Lib.hid (fun h h2 => fb_stop hz.out hx (badX_date (n := n) (seen := (l.take k).map plX) (e := (ki, di, fi)) h h2) (by decide))
      have RT := Lib.hid (fun h h2 h3 => fb_stop hz.out hx (badX_twice (n := n) (seen := (l.take k).map plX) (e := (ki, di, fi)) h h2 h3) (by decide))
      have RN := Lib.hid (fun h h2 h3 => fb_next hz.out hx (badX_none (n := n) (seen := (l.take k).map plX) (e := (ki, di, fi)) h h2 h3))
      simp only at RR RD RT RN
      have VD := Lib.hid (fun W => rdvalid_any di W)
      have HX := Lib.hid hx
      clear hz hx hb
      by_cases h1 : ki < 0
      · have R := Lib.hid (RR.out (.inl h1))
        clear RR RD RT RN VD r1
        go_wp2_with fail
        go_ret2
        exact ⟨ret_chk (by rw [R.out]) (by rw [R.out]), hn.out⟩
      have d1 : decide (ki < 0) = false := decide_eq_false h1
      by_cases h2 : n ≤ ki
      · have R := Lib.hid (RR.out (.inr h2))
        clear RR RD RT RN VD r1 h1
        go_wp2_with fail
        go_ret2
        exact ⟨ret_chk (by rw [R.out]) (by rw [R.out]), hn.out⟩
      have d2 : decide (n ≤ ki) = false := decide_eq_false h2
      have hnr : ¬ (ki < 0 ∨ n ≤ ki) := by omega
      by_cases h3 : dayP di
      case neg =>
        have R := Lib.hid (RD.out hnr h3)
        rw [decide_eq_false h3] at VD
        clear RR RD RT RN h1 h2 h3 hnr
        go_wp2_with fail
        refine (VD.out _).mono ?_
        rintro e w' ⟨rfl, rfl⟩
        go_wp2_with fail
        go_ret2
        exact ⟨ret_chk (by rw [R.out]) (by rw [R.out]), hn.out⟩
      have RT := Lib.hid (RT.out hnr h3)
      have RN := Lib.hid (RN.out hnr h3)
      rw [decide_eq_true h3] at VD
      clear RR RD h1 h2 h3 hnr
      go_wp2_with fail
      refine (VD.out _).mono ?_
      rintro e w' ⟨rfl, rfl⟩
      clear VD r0 r1
      go_wp2_with fail
      go_loopw [7] (fun i wr => ∃ j : Nat, i = .int .i64 j ∧ j ≤ k ∧ Hid (∀ (t' : Nat) (x : Ex), t' < j → l[t']? = some x → plX x ≠ (ki, di)) ∧ Hid (∃ n, wr = w.drewN n)) (fun i _ => k - (intOf i).toNat)
      case atStart => exact ⟨0, rfl, Nat.zero_le _, Lib.hid (fun t' x ht => absurd ht (Nat.not_lt_zero _)), hn⟩
      case round =>
        clear hn
        obtain ⟨j, rfl, hj, hall, hn⟩ := hrel
        by_cases hjk : j < k
        · obtain ⟨⟨kj, dj, fj⟩, hy⟩ := at_lt (show j < l.length by omega)
          obtain ⟨b1, o1, e1, hb1, r0, r1, -⟩ := three_at (H.out.below (drew_below hn.out)) HX.out
          obtain ⟨b2, o2, e2, hb2, s0, s1, -⟩ := three_at (H.out.below (drew_below hn.out)) hy
          cases e1
          cases e2
          have gj : (j : Int) < (l.length : Int) := by omega
          have gj2 : (j : Int) < (k : Int) := by omega
          have NX : Hid (plX (kj, dj, fj) ≠ (ki, di) → ∀ (t' : Nat) (x : Ex), t' < j + 1 → l[t']? = some x → plX x ≠ (ki, di)) := by
            intro hne t' x ht hx
            by_cases e : t' = j
            · subst e
              rw [hy] at hx
              obtain rfl := Option.some.inj hx
              exact hne
            · exact hall.out t' x (by omega) hx
          by_cases e1 : kj = ki
          · have q1 := beq_true e1
            by_cases e2 : dj = di
            · have q2 := beq_true e2
              have R := Lib.hid (RT.out (keys_hit hjk hy (by rw [← e1, ← e2]; rfl)))
              clear hy hb1 hb2 e1 e2 hall HX NX RT RN
              go_wp2_with fail
              go_quiet (fail)
              go_wp2_with fail
              go_ret2
              exact ⟨ret_chk (by rw [R.out]) (by rw [R.out]), (drew_on hn nq).out⟩
            · have q2 := beq_false e2
              have N := Lib.hid (NX.out fun h => e2 (congrArg Prod.snd h))
              clear hy hb1 hb2 e1 e2 hall NX
              go_wp2_with fail
              go_quiet (fail)
              go_wp2_with fail
              go_roundw
              case rel => exact ⟨j + 1, by go_num, by omega, N, drew_on hn nq⟩
              case measure => simp [intOf]; omega
          · have q1 := beq_false e1
            have N := Lib.hid (NX.out fun h => e1 (congrArg Prod.fst h))
            clear hy hb1 hb2 e1 hall NX
            go_wp2_with fail
            go_quiet (fail)
            go_wp2_with fail
            go_roundw
            case rel => exact ⟨j + 1, by go_num, by omega, N, drew_on hn nq⟩
            case measure => simp [intOf]; omega
        · have dj : decide (j < k) = false := by rw [decide_eq_false_iff_not]; exact hjk
          have N := Lib.hid (RN.out (keys_none fun t' x ht hx => hall.out t' x (by omega) hx))
          clear hall hjk HX RT RN
          go_wp2_with fail
          go_roundw
          case rel => exact ⟨k + 1, by go_num, by omega, N, hn⟩
          case measure => simp [intOf]; omega
    · have R := Lib.hid (fb_done hz.out (by omega))
      have d : decide (k < l.length) = false := by rw [decide_eq_false_iff_not]; exact hlt
      clear hz hlt
      go_wp2_with fail
      go_ret2
      exact ⟨ret_chk (by rw [R.out]) (by rw [R.out]), hn.out⟩
end Go.Proofs.Ytlbockpaeacigaa
