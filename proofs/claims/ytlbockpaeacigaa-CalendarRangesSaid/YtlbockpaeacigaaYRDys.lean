/-
  The reference's Days, Next and Previous: what each call answers; nothing that existed before the call has changed behind it. Condition: at most a million exceptions.
-/
import Derived.Test.YtlbockpaeacigaaYRRsn
namespace Go.Proofs.Ytlbockpaeacigaa
open Go.RowKit

set_option maxRecDepth 100000 in
set_option maxHeartbeats 4000000 in
theorem rdays_any (lv xv : Value) (l : List Cl) (x : List Ex) (hx : x.length ≤ 1000000) (i f t : Int) (w : World) (h1 : LstC w lv l) (h2 : LstX w xv x) :
    Calls Try.prog 24 #[lv, xv, .int .i64 i, .int .i64 f, .int .i64 t] w fun e w' => ∃ u, e = .returned u ∧ OwnI w' w.heap.size u (daysT (actT l x i) f t) ∧ Below w.heap.size w w' := by
  obtain ⟨act, hact⟩ : ∃ act, actT l x i = act := ⟨_, rfl⟩
  rw [hact]
  have C := Lib.hid (fun (d : Int) (W : World) (hb : Below w.heap.size w W) => ractive_any lv xv l x (by omega) i d W (h1.below hb) (h2.below hb))
  rw [hact] at C
  clear hact h1 h2 hx
  by_cases c1 : f < 0
  · by_cases c2 : 36524 < t
    · obtain ⟨n, hn⟩ : ∃ n : Nat, ((36524 : Int) + 1 - 0).toNat = n := ⟨_, rfl⟩
      have HN := Lib.hid hn
      have DT : daysT act f t = dayK act 0 n := by unfold daysT; rw [show max f 0 = 0 by omega, show min t 36524 = 36524 by omega, hn]
      rw [DT]
      clear DT
      go_enter Try.func24, Try.ntmps24
      go_wp2_with fail
      go_loopw [12, 11] (fun d' u wr => ∃ (k : Nat) (dd : Int), d' = .int .i64 dd ∧ dd = 0 + (k : Int) ∧ k ≤ n ∧ Hid (OwnI wr w.heap.size u (dayK act 0 k)) ∧ Hid (Below w.heap.size w wr)) (fun d' _ _ => n - (intOf d' - 0).toNat)
      case atStart => exact ⟨0, _, rfl, by simp, Nat.zero_le _, Lib.hid (World.ownsRow_nil _ _ _ _), Lib.hid (Below.refl _ _)⟩
      case round =>
        obtain ⟨k, dd, rfl, hdd, hk, HO, HB⟩ := hrel
        have hb := HB.out.size
        have HL : Hid ((dayK act 0 k).length ≤ 36525) := Nat.le_trans (dayK_le _ _) (by omega)
        by_cases hlt : dd ≤ 36524
        · have A := Lib.hid (C.out dd wr HB.out)
          have hdm : 0 ≤ dd ∧ dd ≤ 36524 := by omega
          have HD := Lib.hid hdd
          cases ha : act dd with
          | true =>
            have N := Lib.hid (dayK_yes (act := act) (lo := 0) (n := k) (by rw [← hdd]; exact ha))
            rw [← hdd] at N
            rw [ha] at A
            clear ha hdd hn
            go_wp2_with fail
            refine A.out.mono ?_
            rintro e w2 ⟨rfl, rfl⟩
            have hz2 := hb
            have B2 := Lib.hid HB.out
            have O2 := Lib.hid HO.out
            clear HB HO
            clear A
            go_wp2_with (at_builtin; refine app_int _ rfl (.tmp 28) (.tmp 30) rfl w.heap.size _ (dayK act 0 k) dd rfl (World.ownsRow.alloc O2.out _) wr.heap.size _ (heap_alloc_new _ _) rfl rfl (by simp; omega) (by have := HL.out; omega) ?_; intro u2 w3 own3 b3)
            have B3 := Lib.hid ((B2.out.alloc hz2 _).trans b3)
            have O3 := Lib.hid own3
            rw [← N.out] at O3
            clear own3 b3
            go_wp2_with fail
            go_roundw
            case rel => exact ⟨k + 1, dd + 1, by go_num, by have := HD.out; omega, by have := HD.out; have := HN.out; omega, O3, B3⟩
            case measure => have := HD.out; have := HN.out; simp [intOf]; omega
          | false =>
            have N := Lib.hid (dayK_no (act := act) (lo := 0) (n := k) (by rw [← hdd]; exact ha))
            rw [ha] at A
            clear ha hdd hn
            go_wp2_with fail
            refine A.out.mono ?_
            rintro e w2 ⟨rfl, rfl⟩
            have hz2 := hb
            have B2 := Lib.hid HB.out
            have O2 := Lib.hid HO.out
            clear HB HO
            rw [← N.out] at O2
            clear A
            go_wp2_with fail
            go_roundw
            case rel => exact ⟨k + 1, dd + 1, by go_num, by have := HD.out; omega, by have := HD.out; have := HN.out; omega, O2, B2⟩
            case measure => have := HD.out; have := HN.out; simp [intOf]; omega
        · have dk : decide (dd ≤ 36524) = false := decide_eq_false hlt
          have O := Lib.hid HO.out
          rw [show k = n by omega] at O
          clear hlt HO hdd hn
          go_wp2_with fail
          go_ret
          exact ⟨_, rfl, O.out, HB.out⟩
    · have d2 : decide (36524 < t) = false := decide_eq_false c2
      obtain ⟨n, hn⟩ : ∃ n : Nat, ((t : Int) + 1 - 0).toNat = n := ⟨_, rfl⟩
      have HN := Lib.hid hn
      have DT : daysT act f t = dayK act 0 n := by unfold daysT; rw [show max f 0 = 0 by omega, show min t 36524 = t by omega, hn]
      rw [DT]
      clear DT
      go_enter Try.func24, Try.ntmps24
      go_wp2_with fail
      go_loopw [12, 11] (fun d' u wr => ∃ (k : Nat) (dd : Int), d' = .int .i64 dd ∧ dd = 0 + (k : Int) ∧ k ≤ n ∧ Hid (OwnI wr w.heap.size u (dayK act 0 k)) ∧ Hid (Below w.heap.size w wr)) (fun d' _ _ => n - (intOf d' - 0).toNat)
      case atStart => exact ⟨0, _, rfl, by simp, Nat.zero_le _, Lib.hid (World.ownsRow_nil _ _ _ _), Lib.hid (Below.refl _ _)⟩
      case round =>
        obtain ⟨k, dd, rfl, hdd, hk, HO, HB⟩ := hrel
        have hb := HB.out.size
        have HL : Hid ((dayK act 0 k).length ≤ 36525) := Nat.le_trans (dayK_le _ _) (by omega)
        by_cases hlt : dd ≤ t
        · have A := Lib.hid (C.out dd wr HB.out)
          have hdm : 0 ≤ dd ∧ dd ≤ 36524 := by omega
          have HD := Lib.hid hdd
          cases ha : act dd with
          | true =>
            have N := Lib.hid (dayK_yes (act := act) (lo := 0) (n := k) (by rw [← hdd]; exact ha))
            rw [← hdd] at N
            rw [ha] at A
            clear ha hdd hn
            go_wp2_with fail
            refine A.out.mono ?_
            rintro e w2 ⟨rfl, rfl⟩
            have hz2 := hb
            have B2 := Lib.hid HB.out
            have O2 := Lib.hid HO.out
            clear HB HO
            clear A
            go_wp2_with (at_builtin; refine app_int _ rfl (.tmp 28) (.tmp 30) rfl w.heap.size _ (dayK act 0 k) dd rfl (World.ownsRow.alloc O2.out _) wr.heap.size _ (heap_alloc_new _ _) rfl rfl (by simp; omega) (by have := HL.out; omega) ?_; intro u2 w3 own3 b3)
            have B3 := Lib.hid ((B2.out.alloc hz2 _).trans b3)
            have O3 := Lib.hid own3
            rw [← N.out] at O3
            clear own3 b3
            go_wp2_with fail
            go_roundw
            case rel => exact ⟨k + 1, dd + 1, by go_num, by have := HD.out; omega, by have := HD.out; have := HN.out; omega, O3, B3⟩
            case measure => have := HD.out; have := HN.out; simp [intOf]; omega
          | false =>
            have N := Lib.hid (dayK_no (act := act) (lo := 0) (n := k) (by rw [← hdd]; exact ha))
            rw [ha] at A
            clear ha hdd hn
            go_wp2_with fail
            refine A.out.mono ?_
            rintro e w2 ⟨rfl, rfl⟩
            have hz2 := hb
            have B2 := Lib.hid HB.out
            have O2 := Lib.hid HO.out
            clear HB HO
            rw [← N.out] at O2
            clear A
            go_wp2_with fail
            go_roundw
            case rel => exact ⟨k + 1, dd + 1, by go_num, by have := HD.out; omega, by have := HD.out; have := HN.out; omega, O2, B2⟩
            case measure => have := HD.out; have := HN.out; simp [intOf]; omega
        · have dk : decide (dd ≤ t) = false := decide_eq_false hlt
          have O := Lib.hid HO.out
          rw [show k = n by omega] at O
          clear hlt HO hdd hn
          go_wp2_with fail
          go_ret
          exact ⟨_, rfl, O.out, HB.out⟩
  · have d1 : decide (f < 0) = false := decide_eq_false c1
    by_cases c2 : 36524 < t
    · obtain ⟨n, hn⟩ : ∃ n : Nat, ((36524 : Int) + 1 - f).toNat = n := ⟨_, rfl⟩
      have HN := Lib.hid hn
      have DT : daysT act f t = dayK act f n := by unfold daysT; rw [show max f 0 = f by omega, show min t 36524 = 36524 by omega, hn]
      rw [DT]
      clear DT
      go_enter Try.func24, Try.ntmps24
      go_wp2_with fail
      go_loopw [12, 11] (fun d' u wr => ∃ (k : Nat) (dd : Int), d' = .int .i64 dd ∧ dd = f + (k : Int) ∧ k ≤ n ∧ Hid (OwnI wr w.heap.size u (dayK act f k)) ∧ Hid (Below w.heap.size w wr)) (fun d' _ _ => n - (intOf d' - f).toNat)
      case atStart => exact ⟨0, _, rfl, by simp, Nat.zero_le _, Lib.hid (World.ownsRow_nil _ _ _ _), Lib.hid (Below.refl _ _)⟩
      case round =>
        obtain ⟨k, dd, rfl, hdd, hk, HO, HB⟩ := hrel
        have hb := HB.out.size
        have HL : Hid ((dayK act f k).length ≤ 36525) := Nat.le_trans (dayK_le _ _) (by omega)
        by_cases hlt : dd ≤ 36524
        · have A := Lib.hid (C.out dd wr HB.out)
          have hdm : 0 ≤ dd ∧ dd ≤ 36524 := by omega
          have HD := Lib.hid hdd
          cases ha : act dd with
          | true =>
            have N := Lib.hid (dayK_yes (act := act) (lo := f) (n := k) (by rw [← hdd]; exact ha))
            rw [← hdd] at N
            rw [ha] at A
            clear ha hdd hn
            go_wp2_with fail
            refine A.out.mono ?_
            rintro e w2 ⟨rfl, rfl⟩
            have hz2 := hb
            have B2 := Lib.hid HB.out
            have O2 := Lib.hid HO.out
            clear HB HO
            clear A
            go_wp2_with (at_builtin; refine app_int _ rfl (.tmp 28) (.tmp 30) rfl w.heap.size _ (dayK act f k) dd rfl (World.ownsRow.alloc O2.out _) wr.heap.size _ (heap_alloc_new _ _) rfl rfl (by simp; omega) (by have := HL.out; omega) ?_; intro u2 w3 own3 b3)
            have B3 := Lib.hid ((B2.out.alloc hz2 _).trans b3)
            have O3 := Lib.hid own3
            rw [← N.out] at O3
            clear own3 b3
            go_wp2_with fail
            go_roundw
            case rel => exact ⟨k + 1, dd + 1, by go_num, by have := HD.out; omega, by have := HD.out; have := HN.out; omega, O3, B3⟩
            case measure => have := HD.out; have := HN.out; simp [intOf]; omega
          | false =>
            have N := Lib.hid (dayK_no (act := act) (lo := f) (n := k) (by rw [← hdd]; exact ha))
            rw [ha] at A
            clear ha hdd hn
            go_wp2_with fail
            refine A.out.mono ?_
            rintro e w2 ⟨rfl, rfl⟩
            have hz2 := hb
            have B2 := Lib.hid HB.out
            have O2 := Lib.hid HO.out
            clear HB HO
            rw [← N.out] at O2
            clear A
            go_wp2_with fail
            go_roundw
            case rel => exact ⟨k + 1, dd + 1, by go_num, by have := HD.out; omega, by have := HD.out; have := HN.out; omega, O2, B2⟩
            case measure => have := HD.out; have := HN.out; simp [intOf]; omega
        · have dk : decide (dd ≤ 36524) = false := decide_eq_false hlt
          have O := Lib.hid HO.out
          rw [show k = n by omega] at O
          clear hlt HO hdd hn
          go_wp2_with fail
          go_ret
          exact ⟨_, rfl, O.out, HB.out⟩
    · have d2 : decide (36524 < t) = false := decide_eq_false c2
      obtain ⟨n, hn⟩ : ∃ n : Nat, ((t : Int) + 1 - f).toNat = n := ⟨_, rfl⟩
      have HN := Lib.hid hn
      have DT : daysT act f t = dayK act f n := by unfold daysT; rw [show max f 0 = f by omega, show min t 36524 = t by omega, hn]
      rw [DT]
      clear DT
      go_enter Try.func24, Try.ntmps24
      go_wp2_with fail
      go_loopw [12, 11] (fun d' u wr => ∃ (k : Nat) (dd : Int), d' = .int .i64 dd ∧ dd = f + (k : Int) ∧ k ≤ n ∧ Hid (OwnI wr w.heap.size u (dayK act f k)) ∧ Hid (Below w.heap.size w wr)) (fun d' _ _ => n - (intOf d' - f).toNat)
      case atStart => exact ⟨0, _, rfl, by simp, Nat.zero_le _, Lib.hid (World.ownsRow_nil _ _ _ _), Lib.hid (Below.refl _ _)⟩
      case round =>
        obtain ⟨k, dd, rfl, hdd, hk, HO, HB⟩ := hrel
        have hb := HB.out.size
        have HL : Hid ((dayK act f k).length ≤ 36525) := Nat.le_trans (dayK_le _ _) (by omega)
        by_cases hlt : dd ≤ t
        · have A := Lib.hid (C.out dd wr HB.out)
          have hdm : 0 ≤ dd ∧ dd ≤ 36524 := by omega
          have HD := Lib.hid hdd
          cases ha : act dd with
          | true =>
            have N := Lib.hid (dayK_yes (act := act) (lo := f) (n := k) (by rw [← hdd]; exact ha))
            rw [← hdd] at N
            rw [ha] at A
            clear ha hdd hn
            go_wp2_with fail
            refine A.out.mono ?_
            rintro e w2 ⟨rfl, rfl⟩
            have hz2 := hb
            have B2 := Lib.hid HB.out
            have O2 := Lib.hid HO.out
            clear HB HO
            clear A
            go_wp2_with (at_builtin; refine app_int _ rfl (.tmp 28) (.tmp 30) rfl w.heap.size _ (dayK act f k) dd rfl (World.ownsRow.alloc O2.out _) wr.heap.size _ (heap_alloc_new _ _) rfl rfl (by simp; omega) (by have := HL.out; omega) ?_; intro u2 w3 own3 b3)
            have B3 := Lib.hid ((B2.out.alloc hz2 _).trans b3)
            have O3 := Lib.hid own3
            rw [← N.out] at O3
            clear own3 b3
            go_wp2_with fail
            go_roundw
            case rel => exact ⟨k + 1, dd + 1, by go_num, by have := HD.out; omega, by have := HD.out; have := HN.out; omega, O3, B3⟩
            case measure => have := HD.out; have := HN.out; simp [intOf]; omega
          | false =>
            have N := Lib.hid (dayK_no (act := act) (lo := f) (n := k) (by rw [← hdd]; exact ha))
            rw [ha] at A
            clear ha hdd hn
            go_wp2_with fail
            refine A.out.mono ?_
            rintro e w2 ⟨rfl, rfl⟩
            have hz2 := hb
            have B2 := Lib.hid HB.out
            have O2 := Lib.hid HO.out
            clear HB HO
            rw [← N.out] at O2
            clear A
            go_wp2_with fail
            go_roundw
            case rel => exact ⟨k + 1, dd + 1, by go_num, by have := HD.out; omega, by have := HD.out; have := HN.out; omega, O2, B2⟩
            case measure => have := HD.out; have := HN.out; simp [intOf]; omega
        · have dk : decide (dd ≤ t) = false := decide_eq_false hlt
          have O := Lib.hid HO.out
          rw [show k = n by omega] at O
          clear hlt HO hdd hn
          go_wp2_with fail
          go_ret
          exact ⟨_, rfl, O.out, HB.out⟩
set_option maxRecDepth 100000 in
set_option maxHeartbeats 4000000 in
theorem rnext_any (lv xv : Value) (l : List Cl) (x : List Ex) (hx : x.length ≤ 1000000) (i d : Int) (w : World) (h1 : LstC w lv l) (h2 : LstX w xv x) : Calls Try.prog 26 #[lv, xv, .int .i64 i, .int .i64 d] w fun e w' => e = .returned (.tuple #[.int .i64 ((nxtT (actT l x i) d).1), .bool ((nxtT (actT l x i) d).2)]) ∧ Below w.heap.size w w' := by
  obtain ⟨act, hact⟩ : ∃ act, actT l x i = act := ⟨_, rfl⟩
  rw [hact]
  have C := Lib.hid (fun (d : Int) (W : World) (hb : Below w.heap.size w W) => ractive_any lv xv l x (by omega) i d W (h1.below hb) (h2.below hb))
  rw [hact] at C
  clear hact h1 h2 hx
  have ST := Lib.hid (nxt_start (act := act) d)
  generalize nxtT act d = q at ST ⊢
  by_cases c1 : d < 0
  · rw [show max d 0 = 0 by omega] at ST
    go_enter Try.func26, Try.ntmps26
    go_wp2_with fail
    go_loopw [3] (fun d' wr => ∃ dd : Int, d' = .int .i64 dd ∧ 0 ≤ dd ∧ Hid (q = nxtF act dd (36525 - dd).toNat) ∧ Hid (Below w.heap.size w wr)) (fun d' _ => (36525 - intOf d').toNat)
    case atStart => exact ⟨_, rfl, by omega, ST, Lib.hid (Below.refl _ _)⟩
    case round =>
      clear ST
      obtain ⟨dd, rfl, h0, hz, HB⟩ := hrel
      have hb := HB.out.size
      by_cases hlt : dd ≤ 36524
      · have A := Lib.hid (C.out dd wr HB.out)
        cases ha : act dd with
        | true =>
          have F := Lib.hid (nxt_hit hz.out hlt ha)
          rw [ha] at A
          clear ha hz
          go_wp2_with fail
          refine A.out.mono ?_
          rintro e w2 ⟨rfl, rfl⟩
          have B2 := Lib.hid HB.out
          clear HB
          clear A
          go_wp2_with fail
          go_ret2
          exact ⟨ret_ib (by rw [F.out]) (by rw [F.out]), B2.out⟩
        | false =>
          have N := Lib.hid (nxt_miss hz.out hlt ha)
          rw [ha] at A
          clear ha hz
          go_wp2_with fail
          refine A.out.mono ?_
          rintro e w2 ⟨rfl, rfl⟩
          have B2 := Lib.hid HB.out
          clear HB
          clear A
          go_wp2_with fail
          go_roundw
          case rel => exact ⟨dd + 1, by go_num, by omega, N, B2⟩
          case measure => simp [intOf]; omega
      · have dk : decide (dd ≤ 36524) = false := decide_eq_false hlt
        have F := Lib.hid (nxt_end hz.out (by omega))
        clear hlt hz
        go_wp2_with fail
        go_ret2
        exact ⟨ret_ib (by rw [F.out]) (by rw [F.out]), HB.out⟩
  · have d1 : decide (d < 0) = false := decide_eq_false c1
    rw [show max d 0 = d by omega] at ST
    go_enter Try.func26, Try.ntmps26
    go_wp2_with fail
    go_loopw [3] (fun d' wr => ∃ dd : Int, d' = .int .i64 dd ∧ 0 ≤ dd ∧ Hid (q = nxtF act dd (36525 - dd).toNat) ∧ Hid (Below w.heap.size w wr)) (fun d' _ => (36525 - intOf d').toNat)
    case atStart => exact ⟨_, rfl, by omega, ST, Lib.hid (Below.refl _ _)⟩
    case round =>
      clear ST
      obtain ⟨dd, rfl, h0, hz, HB⟩ := hrel
      have hb := HB.out.size
      by_cases hlt : dd ≤ 36524
      · have A := Lib.hid (C.out dd wr HB.out)
        cases ha : act dd with
        | true =>
          have F := Lib.hid (nxt_hit hz.out hlt ha)
          rw [ha] at A
          clear ha hz
          go_wp2_with fail
          refine A.out.mono ?_
          rintro e w2 ⟨rfl, rfl⟩
          have B2 := Lib.hid HB.out
          clear HB
          clear A
          go_wp2_with fail
          go_ret2
          exact ⟨ret_ib (by rw [F.out]) (by rw [F.out]), B2.out⟩
        | false =>
          have N := Lib.hid (nxt_miss hz.out hlt ha)
          rw [ha] at A
          clear ha hz
          go_wp2_with fail
          refine A.out.mono ?_
          rintro e w2 ⟨rfl, rfl⟩
          have B2 := Lib.hid HB.out
          clear HB
          clear A
          go_wp2_with fail
          go_roundw
          case rel => exact ⟨dd + 1, by go_num, by omega, N, B2⟩
          case measure => simp [intOf]; omega
      · have dk : decide (dd ≤ 36524) = false := decide_eq_false hlt
        have F := Lib.hid (nxt_end hz.out (by omega))
        clear hlt hz
        go_wp2_with fail
        go_ret2
        exact ⟨ret_ib (by rw [F.out]) (by rw [F.out]), HB.out⟩
set_option maxRecDepth 100000 in
set_option maxHeartbeats 4000000 in
theorem rprev_any (lv xv : Value) (l : List Cl) (x : List Ex) (hx : x.length ≤ 1000000) (i d : Int) (w : World) (h1 : LstC w lv l) (h2 : LstX w xv x) : Calls Try.prog 28 #[lv, xv, .int .i64 i, .int .i64 d] w fun e w' => e = .returned (.tuple #[.int .i64 ((prvT (actT l x i) d).1), .bool ((prvT (actT l x i) d).2)]) ∧ Below w.heap.size w w' := by
  obtain ⟨act, hact⟩ : ∃ act, actT l x i = act := ⟨_, rfl⟩
  rw [hact]
  have C := Lib.hid (fun (d : Int) (W : World) (hb : Below w.heap.size w W) => ractive_any lv xv l x (by omega) i d W (h1.below hb) (h2.below hb))
  rw [hact] at C
  clear hact h1 h2 hx
  have ST := Lib.hid (prv_start (act := act) d)
  generalize prvT act d = q at ST ⊢
  by_cases c1 : 36524 < d
  · rw [show min d 36524 = 36524 by omega] at ST
    go_enter Try.func28, Try.ntmps28
    go_wp2_with fail
    go_loopw [3] (fun d' wr => ∃ dd : Int, d' = .int .i64 dd ∧ dd ≤ 36524 ∧ Hid (q = prvF act dd (dd + 1).toNat) ∧ Hid (Below w.heap.size w wr)) (fun d' _ => (intOf d' + 1).toNat)
    case atStart => exact ⟨_, rfl, by omega, ST, Lib.hid (Below.refl _ _)⟩
    case round =>
      clear ST
      obtain ⟨dd, rfl, h0, hz, HB⟩ := hrel
      have hb := HB.out.size
      by_cases hlt : 0 ≤ dd
      · have A := Lib.hid (C.out dd wr HB.out)
        cases ha : act dd with
        | true =>
          have F := Lib.hid (prv_hit hz.out hlt ha)
          rw [ha] at A
          clear ha hz
          go_wp2_with fail
          refine A.out.mono ?_
          rintro e w2 ⟨rfl, rfl⟩
          have B2 := Lib.hid HB.out
          clear HB
          clear A
          go_wp2_with fail
          go_ret2
          exact ⟨ret_ib (by rw [F.out]) (by rw [F.out]), B2.out⟩
        | false =>
          have N := Lib.hid (prv_miss hz.out hlt ha)
          rw [ha] at A
          clear ha hz
          go_wp2_with fail
          refine A.out.mono ?_
          rintro e w2 ⟨rfl, rfl⟩
          have B2 := Lib.hid HB.out
          clear HB
          clear A
          go_wp2_with fail
          go_roundw
          case rel => exact ⟨dd - 1, by go_num, by omega, N, B2⟩
          case measure => simp [intOf]; omega
      · have dk : decide (0 ≤ dd) = false := decide_eq_false hlt
        have F := Lib.hid (prv_end hz.out (by omega))
        clear hlt hz
        go_wp2_with fail
        go_ret2
        exact ⟨ret_ib (by rw [F.out]) (by rw [F.out]), HB.out⟩
  · have d1 : decide (36524 < d) = false := decide_eq_false c1
    rw [show min d 36524 = d by omega] at ST
    go_enter Try.func28, Try.ntmps28
    go_wp2_with fail
    go_loopw [3] (fun d' wr => ∃ dd : Int, d' = .int .i64 dd ∧ dd ≤ 36524 ∧ Hid (q = prvF act dd (dd + 1).toNat) ∧ Hid (Below w.heap.size w wr)) (fun d' _ => (intOf d' + 1).toNat)
    case atStart => exact ⟨_, rfl, by omega, ST, Lib.hid (Below.refl _ _)⟩
    case round =>
      clear ST
      obtain ⟨dd, rfl, h0, hz, HB⟩ := hrel
      have hb := HB.out.size
      by_cases hlt : 0 ≤ dd
      · have A := Lib.hid (C.out dd wr HB.out)
        cases ha : act dd with
        | true =>
          have F := Lib.hid (prv_hit hz.out hlt ha)
          rw [ha] at A
          clear ha hz
          go_wp2_with fail
          refine A.out.mono ?_
          rintro e w2 ⟨rfl, rfl⟩
          have B2 := Lib.hid HB.out
          clear HB
          clear A
          go_wp2_with fail
          go_ret2
          exact ⟨ret_ib (by rw [F.out]) (by rw [F.out]), B2.out⟩
        | false =>
          have N := Lib.hid (prv_miss hz.out hlt ha)
          rw [ha] at A
          clear ha hz
          go_wp2_with fail
          refine A.out.mono ?_
          rintro e w2 ⟨rfl, rfl⟩
          have B2 := Lib.hid HB.out
          clear HB
          clear A
          go_wp2_with fail
          go_roundw
          case rel => exact ⟨dd - 1, by go_num, by omega, N, B2⟩
          case measure => simp [intOf]; omega
      · have dk : decide (0 ≤ dd) = false := decide_eq_false hlt
        have F := Lib.hid (prv_end hz.out (by omega))
        clear hlt hz
        go_wp2_with fail
        go_ret2
        exact ⟨ret_ib (by rw [F.out]) (by rw [F.out]), HB.out⟩
end Go.Proofs.Ytlbockpaeacigaa
