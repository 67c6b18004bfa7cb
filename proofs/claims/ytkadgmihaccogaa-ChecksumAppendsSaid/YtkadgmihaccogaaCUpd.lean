/-
  The checksum of package checksum, and the reference's: what each call answers; nothing that existed before has changed. Condition: the slice's length is an int.
-/
import Derived.Test.YtkadgmihaccogaaCTab
namespace Go.Proofs.Ytkadgmihaccogaa
open Go.RowKit

theorem not_w (c : Nat) (hc : W32 c) : bits .xor .u32 IntKind.u32.max (c : Int) = ((c ^^^ ones : Nat) : Int) := by
  rw [Nat.xor_comm, show IntKind.u32.max = ((ones : Nat) : Int) by decide]
  exact u32_xor_nat ones c ones_lt hc
theorem take_upd {c : Nat} {l : List UInt8} {k : Nat} {x : UInt8} (h : l[k]? = some x) : updL c (l.take (k + 1)) = inB (updL c (l.take k)) x := by
  rw [take_at l k x h, updL_snoc]
theorem take_all_b (l : List UInt8) : l.take l.length = l := List.take_length
theorem head8 (q : Nat) : ((q : Int) / 256) = ((q / 256 : Nat) : Int) := (Int.natCast_ediv q 256).symm
theorem low8 (q : Nat) : ((q : Int) % 256) = ((q % 256 : Nat) : Int) := (Int.natCast_emod q 256).symm
theorem byte_lt (x : UInt8) : x.toNat < 256 := UInt8.toNat_lt x

set_option maxHeartbeats 1000000 in
theorem update_any (c : Nat) (hc : W32 c) (v : Value) (l : List UInt8) (hl : l.length ≤ 9223372036854775807) (w : World) (h : LstB w v l) : Calls Try.prog 14 #[.int .u32 (c : Int), v] w fun e w' => e = .returned (.int .u32 ((upd c l : Nat) : Int)) ∧ Below w.heap.size w w' := by
  have e0 := not_w c hc
  have hc2 := xor_lt hc ones_lt
  unfold upd
  generalize c ^^^ ones = c2 at e0 hc2 ⊢
  obtain ⟨Z, hZ⟩ : ∃ Z, updL c2 l ^^^ ones = Z := ⟨_, rfl⟩
  rw [hZ]
  have HZ := Lib.hid hZ
  have HC := Lib.hid hc2
  have R := Lib.hid (remainders_any w)
  obtain ⟨A, cap, rfl, hcap, -, hcell⟩ := h
  have HX := Lib.hid hcell
  clear hc hc2 hcell hcap hZ
  go_enter Try.func14, Try.ntmps14
  go_wp2_with fail
  refine R.out.mono ?_
  rintro e w1 ⟨rfl, b1⟩
  clear R
  have g0 := heap_alloc_new w1 (.cells (tab 0) 42 (0, 0))
  have g1 := setRow_heap (w1.alloc (.cells (tab 0) 42 (0, 0))) w1.heap.size (tab 0) (tab 256) _ _ g0
  have b2 : Below w.heap.size w ((w1.alloc (.cells (tab 0) 42 (0, 0))).setRow w1.heap.size (tab 256)) := below_row (b1.alloc b1.size _) b1.size _
  have HG := Lib.hid g0
  obtain ⟨w2, hw2⟩ : ∃ x, x = (w1.alloc (.cells (tab 0) 42 (0, 0))).setRow w1.heap.size (tab 256) := ⟨_, rfl⟩
  rw [← hw2] at g1 b2
  have HW := Lib.hid hw2
  have G1 := Lib.hid g1
  have B2 := Lib.hid b2
  clear g0 hw2 g1 b2
  go_wp2_with (first
    | (refine alloc_tab rfl rfl ?_)
    | (refine wpList_store_row rfl 42 (.tmp 5) (.tmp 8) rfl w1.heap.size (tab 256) rfl rfl 42 (tab 0) HG.out (size_tab _) (by rw [tab_size, tab_size]) (tab_one _) ?_; rw [← HW.out]))
  go_loop [0, 7, 13] (fun u _ i => ∃ k q : Nat, i = .int .i64 k ∧ k ≤ l.length ∧ u = .int .u32 q ∧ Hid (q = updL c2 (l.take k))) (fun _ _ i => l.length - (intOf i).toNat)
  case atStart => exact ⟨0, c2, rfl, Nat.zero_le _, rfl, Lib.hid rfl⟩
  case round =>
    obtain ⟨k, q, rfl, hk, rfl, hq⟩ := hrel
    have hw : W32 q := by rw [hq.out]; exact updL_lt _ HC.out
    by_cases hlt : k < l.length
    · have gk : (k : Int) < (l.length : Int) := by omega
      obtain ⟨x, hx⟩ := at_lt hlt
      obtain ⟨b, o, rfl, hb, hcc⟩ := HX.out (by omega)
      have m1 : w2.cell? ⟨b, o + k, none⟩ = some (.int .u8 x.toNat) := (B2.out.cell (p := ⟨b, o + k, none⟩) hb).trans (hcc k _ (bts_at l k x hx))
      have h2 : Hid ((q / 256) ^^^ shN 8 ((q % 256) ^^^ x.toNat) = updL c2 (l.take (k + 1))) := by
        show _ = _
        rw [take_upd hx, ← hq.out, inB_table]
      have hx8 := byte_lt x
      have e1 := head8 q
      have e2 := low8 q
      have e3 := u8_xor_nat (q % 256) x.toNat (Nat.mod_lt _ (by decide)) hx8
      have hi : (q % 256) ^^^ x.toNat < 256 := xor8_lt (Nat.mod_lt _ (by decide)) hx8
      have hs : W32 (shN 8 ((q % 256) ^^^ x.toNat)) := shN_lt 8 (by unfold W32; omega)
      have hq2 : W32 (q / 256) := by unfold W32 at *; omega
      have e4 := u32_xor_nat (q / 256) _ hq2 hs
      have e5 : IntKind.u8.wrap (q : Int) = (q : Int) % 256 := IntKind.wrap_u8 _
      have m2 : w2.cell? ⟨w1.heap.size, (q % 256) ^^^ x.toNat, none⟩ = some (.int .u32 ((shN 8 ((q % 256) ^^^ x.toNat) : Nat) : Int)) := by
        rw [cell_of_row _ _ _ _ _ _ G1.out, tab_at 256 _ hi, if_pos hi]
      have I := tix_run w1.heap.size ((q % 256) ^^^ x.toNat) hi .u8
      generalize q / 256 ^^^ shN 8 ((q % 256) ^^^ x.toNat) = r at e4 h2
      generalize shN 8 ((q % 256) ^^^ x.toNat) = s at e4 m2
      generalize (q % 256) ^^^ x.toNat = t at e3 m2 I
      generalize q % 256 = q0 at e2 e3
      generalize q / 256 = q1 at e1 e4
      generalize x.toNat = y at m1 e3
      clear hs hq2 hi hx8 hw hq hx hb hcc
      go_wp2_with fail
      go_round
      case rel => exact ⟨k + 1, r, by go_num, by omega, rfl, h2⟩
      case measure => simp [intOf]; omega
    · have d : decide (k < l.length) = false := decide_eq_false hlt
      have e9 := not_w q hw
      have R9 := Lib.hid (show q ^^^ ones = Z by rw [hq.out, show k = l.length by omega, take_all_b, HZ.out])
      clear hq hw hlt
      go_wp2_with fail
      go_ret
      exact ⟨ret_n R9.out, B2.out⟩
theorem crc_any (v : Value) (l : List UInt8) (hl : l.length ≤ 9223372036854775807) (w : World) (h : LstB w v l) : Calls Try.prog 12 #[v] w fun e w' => e = .returned (.int .u32 ((crc l : Nat) : Int)) ∧ Below w.heap.size w w' := by
  have M := Lib.hid (update_any 0 (by decide) v l hl w h)
  unfold crc
  generalize upd 0 l = r at M ⊢
  clear h
  go_enter Try.func12, Try.ntmps12
  go_wp2_with fail
  refine (M.out).mono ?_
  rintro e w1 ⟨rfl, b1⟩
  go_wp2_with fail
  go_ret
  exact ⟨rfl, b1⟩
set_option maxHeartbeats 1000000 in
theorem rupdate_any (c : Nat) (hc : W32 c) (v : Value) (l : List UInt8) (hl : l.length ≤ 9223372036854775807) (w : World) (h : LstB w v l) : Calls Try.prog 15 #[.int .u32 (c : Int), v] w fun e w' => e = .returned (.int .u32 ((upd c l : Nat) : Int)) ∧ w = w' := by
  have e0 := not_w c hc
  have hc2 := xor_lt hc ones_lt
  unfold upd
  generalize c ^^^ ones = c2 at e0 hc2 ⊢
  obtain ⟨Z, hZ⟩ : ∃ Z, updL c2 l ^^^ ones = Z := ⟨_, rfl⟩
  rw [hZ]
  have HZ := Lib.hid hZ
  have HC := Lib.hid hc2
  obtain ⟨A, cap, rfl, hcap, -, hcell⟩ := h
  have HX := Lib.hid hcell
  clear hc hc2 hcell hcap hZ
  go_enter Try.func15, Try.ntmps15
  go_wp2_with fail
  go_loop [0, 5] (fun u i => ∃ k q : Nat, i = .int .i64 k ∧ k ≤ l.length ∧ u = .int .u32 q ∧ Hid (q = updL c2 (l.take k))) (fun _ i => l.length - (intOf i).toNat)
  case atStart => exact ⟨0, c2, rfl, Nat.zero_le _, rfl, Lib.hid rfl⟩
  case round =>
    obtain ⟨k, q, rfl, hk, rfl, hq⟩ := hrel
    have hw : W32 q := by rw [hq.out]; exact updL_lt _ HC.out
    by_cases hlt : k < l.length
    · have gk : (k : Int) < (l.length : Int) := by omega
      obtain ⟨x, hx⟩ := at_lt hlt
      obtain ⟨b, o, rfl, hb, hcc⟩ := HX.out (by omega)
      have m1 : w.cell? ⟨b, o + k, none⟩ = some (.int .u8 x.toNat) := hcc k _ (bts_at l k x hx)
      have h2 : Hid (inB q x = updL c2 (l.take (k + 1))) := by
        show _ = _
        rw [take_upd hx, ← hq.out]
      have M := Lib.hid (fun W => rshift_any q x hw W)
      generalize inB q x = r at M h2
      generalize x.toNat = y at m1 M
      clear hw hq hx hb hcc
      go_wp2_with fail
      refine (M.out _).mono ?_
      rintro e w' ⟨rfl, rfl⟩
      go_wp2_with fail
      go_round
      case rel => exact ⟨k + 1, r, by go_num, by omega, rfl, h2⟩
      case measure => simp [intOf]; omega
    · have d : decide (k < l.length) = false := decide_eq_false hlt
      have e9 := not_w q hw
      have R9 := Lib.hid (show q ^^^ ones = Z by rw [hq.out, show k = l.length by omega, take_all_b, HZ.out])
      clear hq hw hlt
      go_wp2_with fail
      go_ret
      exact ⟨ret_n R9.out, rfl⟩
theorem rsum_any (v : Value) (l : List UInt8) (hl : l.length ≤ 9223372036854775807) (w : World) (h : LstB w v l) : Calls Try.prog 13 #[v] w fun e w' => e = .returned (.int .u32 ((crc l : Nat) : Int)) ∧ w = w' := by
  have M := Lib.hid (rupdate_any 0 (by decide) v l hl w h)
  unfold crc
  generalize upd 0 l = r at M ⊢
  clear h
  go_enter Try.func13, Try.ntmps13
  go_wp2_with fail
  refine (M.out).mono ?_
  rintro e w' ⟨rfl, rfl⟩
  go_wp2_with fail
  go_ret
  exact ⟨rfl, rfl⟩
end Go.Proofs.Ytkadgmihaccogaa
