/-
  The code's Days, Next and Previous: what each call answers; nothing that existed before the call has changed behind it. Condition: at most a million exceptions.
-/
import Derived.Test.YtlbockpaeacigaaYRsn
import Derived.Lib.MinMax
namespace Go.Proofs.Ytlbockpaeacigaa
open Go.RowKit

theorem OwnI.down {w : World} {base base' : Nat} {v : Value} {l : List Int} (h : OwnI w base v l) (hb : base' ≤ base) : OwnI w base' v l := by
  refine ⟨h.1, ?_⟩
  rcases h.2 with h0 | ⟨g, cap, cur, hv, hbg, hr⟩
  · exact Or.inl h0
  · exact Or.inr ⟨g, cap, cur, hv, Nat.le_trans hb hbg, hr⟩

set_option maxRecDepth 100000 in
set_option maxHeartbeats 4000000 in
theorem days_any (lv xv : Value) (l : List Cl) (x : List Ex) (hx : x.length ≤ 1000000) (i f t : Int) (w : World) (h1 : LstC w lv l) (h2 : LstX w xv x) :
    Calls Try.prog 23 #[lv, xv, .int .i64 i, .int .i64 f, .int .i64 t] w fun e w' => ∃ u, e = .returned u ∧ OwnI w' w.heap.size u (daysT (actT l x i) f t) ∧ Below w.heap.size w w' := by
  have OW := Lib.hid (own_any xv x i hx w h2)
  obtain ⟨act, hact⟩ : ∃ act, actT l x i = act := ⟨_, rfl⟩
  have ho := (act_own l x i).trans hact
  rw [hact]
  have HC := Lib.hid (fun (u : Value) (w1 : World) (hu : LstX w1 u (ownX i x)) (b : Below w.heap.size w w1) (d : Int) (W : World) (hb : Below w1.heap.size w1 W) => active_any lv u l (ownX i x) (Nat.le_trans (ownX_len _ _) (by omega)) i d W (h1.below (b.trans (hb.mono b.size))) (hu.below hb))
  rw [ho] at HC
  clear ho hact h1 h2 hx
  obtain ⟨lo, hlo⟩ : ∃ lo, max f 0 = lo := ⟨_, rfl⟩
  obtain ⟨T, hT⟩ : ∃ T, min t 36524 = T := ⟨_, rfl⟩
  obtain ⟨n, hn⟩ : ∃ n : Nat, (T + 1 - lo).toNat = n := ⟨_, rfl⟩
  have HN := Lib.hid hn
  have DT : daysT act f t = dayK act lo n := by unfold daysT; rw [hlo, hT, hn]
  rw [DT]
  have hl0 : 0 ≤ lo := by omega
  have hT1 : T ≤ 36524 := by omega
  clear DT
  go_enter Try.func23, Try.ntmps23
  go_wp2_with fail
  refine OW.out.mono ?_
  rintro e w1 ⟨u1, rfl, o1, b1⟩
  have C := Lib.hid (HC.out u1 w1 o1.lst b1)
  have B1 := Lib.hid b1
  have hz1 := b1.size
  clear o1 b1 OW HC
  go_wp2_with fail
  go_loopw [13, 11] (fun d' u wr => ∃ (k : Nat) (dd : Int), d' = .int .i64 dd ∧ dd = lo + (k : Int) ∧ k ≤ n ∧ Hid (OwnI wr w1.heap.size u (dayK act lo k)) ∧ Hid (Below w1.heap.size w1 wr)) (fun d' _ _ => n - (intOf d' - lo).toNat)
  case atStart => exact ⟨0, _, rfl, by simp, Nat.zero_le _, Lib.hid (World.ownsRow_nil _ _ _ _), Lib.hid (Below.refl _ _)⟩
  case round =>
    obtain ⟨k, dd, rfl, hdd, hk, HO, HB⟩ := hrel
    have hb := HB.out.size
    have HL : Hid ((dayK act lo k).length ≤ 36525) := Nat.le_trans (dayK_le _ _) (by omega)
    by_cases hlt : dd ≤ T
    · have A := Lib.hid (C.out dd wr HB.out)
      have hdm : 0 ≤ dd ∧ dd ≤ 36524 := by omega
      have HD := Lib.hid hdd
      cases ha : act dd with
      | true =>
        have N := Lib.hid (dayK_yes (act := act) (lo := lo) (n := k) (by rw [← hdd]; exact ha))
        rw [← hdd] at N
        rw [ha] at A
        clear ha hdd hn
        go_wp2_with fail
        refine A.out.mono ?_
        rintro e w2 ⟨rfl, b2⟩
        have hz2 := Nat.le_trans hb b2.size
        have B2 := Lib.hid (HB.out.trans (b2.mono hb))
        have O2 := Lib.hid (OwnI.below HO.out b2)
        clear b2 HB HO
        clear A
        go_wp2_with (at_builtin; refine app_int _ rfl (.tmp 30) (.tmp 32) rfl w1.heap.size _ (dayK act lo k) dd rfl (World.ownsRow.alloc O2.out _) w2.heap.size _ (heap_alloc_new _ _) rfl rfl (by simp; omega) (by have := HL.out; omega) ?_; intro u2 w3 own3 b3)
        have B3 := Lib.hid ((B2.out.alloc hz2 _).trans b3)
        have O3 := Lib.hid own3
        rw [← N.out] at O3
        clear own3 b3
        go_wp2_with fail
        go_roundw
        case rel => exact ⟨k + 1, dd + 1, by go_num, by have := HD.out; omega, by have := HD.out; have := HN.out; omega, O3, B3⟩
        case measure => have := HD.out; have := HN.out; simp [intOf]; omega
      | false =>
        have N := Lib.hid (dayK_no (act := act) (lo := lo) (n := k) (by rw [← hdd]; exact ha))
        rw [ha] at A
        clear ha hdd hn
        go_wp2_with fail
        refine A.out.mono ?_
        rintro e w2 ⟨rfl, b2⟩
        have hz2 := Nat.le_trans hb b2.size
        have B2 := Lib.hid (HB.out.trans (b2.mono hb))
        have O2 := Lib.hid (OwnI.below HO.out b2)
        clear b2 HB HO
        rw [← N.out] at O2
        clear A
        go_wp2_with fail
        go_roundw
        case rel => exact ⟨k + 1, dd + 1, by go_num, by have := HD.out; omega, by have := HD.out; have := HN.out; omega, O2, B2⟩
        case measure => have := HD.out; have := HN.out; simp [intOf]; omega
    · have dk : decide (dd ≤ T) = false := decide_eq_false hlt
      have O := Lib.hid HO.out
      rw [show k = n by omega] at O
      clear hlt HO hdd hn
      go_wp2_with fail
      go_ret
      exact ⟨_, rfl, OwnI.down O.out hz1, B1.out.trans (HB.out.mono hz1)⟩
set_option maxRecDepth 100000 in
set_option maxHeartbeats 4000000 in
theorem next_any (lv xv : Value) (l : List Cl) (x : List Ex) (hx : x.length ≤ 1000000) (i d : Int) (w : World) (h1 : LstC w lv l) (h2 : LstX w xv x) : Calls Try.prog 25 #[lv, xv, .int .i64 i, .int .i64 d] w fun e w' => e = .returned (.tuple #[.int .i64 ((nxtT (actT l x i) d).1), .bool ((nxtT (actT l x i) d).2)]) ∧ Below w.heap.size w w' := by
  have OW := Lib.hid (own_any xv x i hx w h2)
  obtain ⟨act, hact⟩ : ∃ act, actT l x i = act := ⟨_, rfl⟩
  have ho := (act_own l x i).trans hact
  rw [hact]
  have HC := Lib.hid (fun (u : Value) (w1 : World) (hu : LstX w1 u (ownX i x)) (b : Below w.heap.size w w1) (d : Int) (W : World) (hb : Below w1.heap.size w1 W) => active_any lv u l (ownX i x) (Nat.le_trans (ownX_len _ _) (by omega)) i d W (h1.below (b.trans (hb.mono b.size))) (hu.below hb))
  rw [ho] at HC
  clear ho hact h1 h2 hx
  have ST := Lib.hid (nxt_start (act := act) d)
  generalize nxtT act d = q at ST ⊢
  obtain ⟨lo, hlo⟩ : ∃ lo, max d 0 = lo := ⟨_, rfl⟩
  rw [hlo] at ST
  go_enter Try.func25, Try.ntmps25
  go_wp2_with fail
  refine OW.out.mono ?_
  rintro e w1 ⟨u1, rfl, o1, b1⟩
  have C := Lib.hid (HC.out u1 w1 o1.lst b1)
  have B1 := Lib.hid b1
  have hz1 := b1.size
  clear o1 b1 OW HC
  go_wp2_with fail
  go_loopw [11] (fun d' wr => ∃ dd : Int, d' = .int .i64 dd ∧ 0 ≤ dd ∧ Hid (q = nxtF act dd (36525 - dd).toNat) ∧ Hid (Below w1.heap.size w1 wr)) (fun d' _ => (36525 - intOf d').toNat)
  case atStart => exact ⟨_, rfl, by omega, ST, Lib.hid (Below.refl _ _)⟩
  case round =>
    clear ST
    obtain ⟨dd, rfl, h0, hz, HB⟩ := hrel
    have hb := HB.out.size
    by_cases hlt : dd ≤ 36524
    · have A := Lib.hid (C.out dd wr HB.out)
      cases ha : act dd with
      | true =>
        have F := Lib.hid (nxt_hit hz.out hlt ha)
        rw [ha] at A
        clear ha hz
        go_wp2_with fail
        refine A.out.mono ?_
        rintro e w2 ⟨rfl, b2⟩
        have B2 := Lib.hid (HB.out.trans (b2.mono hb))
        clear b2 HB
        clear A
        go_wp2_with fail
        go_ret2
        exact ⟨ret_ib (by rw [F.out]) (by rw [F.out]), B1.out.trans (B2.out.mono hz1)⟩
      | false =>
        have N := Lib.hid (nxt_miss hz.out hlt ha)
        rw [ha] at A
        clear ha hz
        go_wp2_with fail
        refine A.out.mono ?_
        rintro e w2 ⟨rfl, b2⟩
        have B2 := Lib.hid (HB.out.trans (b2.mono hb))
        clear b2 HB
        clear A
        go_wp2_with fail
        go_roundw
        case rel => exact ⟨dd + 1, by go_num, by omega, N, B2⟩
        case measure => simp [intOf]; omega
    · have dk : decide (dd ≤ 36524) = false := decide_eq_false hlt
      have F := Lib.hid (nxt_end hz.out (by omega))
      clear hlt hz
      go_wp2_with fail
      go_ret2
      exact ⟨ret_ib (by rw [F.out]) (by rw [F.out]), B1.out.trans (HB.out.mono hz1)⟩
set_option maxRecDepth 100000 in
set_option maxHeartbeats 4000000 in
theorem prev_any (lv xv : Value) (l : List Cl) (x : List Ex) (hx : x.length ≤ 1000000) (i d : Int) (w : World) (h1 : LstC w lv l) (h2 : LstX w xv x) : Calls Try.prog 27 #[lv, xv, .int .i64 i, .int .i64 d] w fun e w' => e = .returned (.tuple #[.int .i64 ((prvT (actT l x i) d).1), .bool ((prvT (actT l x i) d).2)]) ∧ Below w.heap.size w w' := by
  have OW := Lib.hid (own_any xv x i hx w h2)
  obtain ⟨act, hact⟩ : ∃ act, actT l x i = act := ⟨_, rfl⟩
  have ho := (act_own l x i).trans hact
  rw [hact]
  have HC := Lib.hid (fun (u : Value) (w1 : World) (hu : LstX w1 u (ownX i x)) (b : Below w.heap.size w w1) (d : Int) (W : World) (hb : Below w1.heap.size w1 W) => active_any lv u l (ownX i x) (Nat.le_trans (ownX_len _ _) (by omega)) i d W (h1.below (b.trans (hb.mono b.size))) (hu.below hb))
  rw [ho] at HC
  clear ho hact h1 h2 hx
  have ST := Lib.hid (prv_start (act := act) d)
  generalize prvT act d = q at ST ⊢
  obtain ⟨lo, hlo⟩ : ∃ lo, min d 36524 = lo := ⟨_, rfl⟩
  rw [hlo] at ST
  go_enter Try.func27, Try.ntmps27
  go_wp2_with fail
  refine OW.out.mono ?_
  rintro e w1 ⟨u1, rfl, o1, b1⟩
  have C := Lib.hid (HC.out u1 w1 o1.lst b1)
  have B1 := Lib.hid b1
  have hz1 := b1.size
  clear o1 b1 OW HC
  go_wp2_with fail
  go_loopw [11] (fun d' wr => ∃ dd : Int, d' = .int .i64 dd ∧ dd ≤ 36524 ∧ Hid (q = prvF act dd (dd + 1).toNat) ∧ Hid (Below w1.heap.size w1 wr)) (fun d' _ => (intOf d' + 1).toNat)
  case atStart => exact ⟨_, rfl, by omega, ST, Lib.hid (Below.refl _ _)⟩
  case round =>
    clear ST
    obtain ⟨dd, rfl, h0, hz, HB⟩ := hrel
    have hb := HB.out.size
    by_cases hlt : 0 ≤ dd
    · have A := Lib.hid (C.out dd wr HB.out)
      cases ha : act dd with
      | true =>
        have F := Lib.hid (prv_hit hz.out hlt ha)
        rw [ha] at A
        clear ha hz
        go_wp2_with fail
        refine A.out.mono ?_
        rintro e w2 ⟨rfl, b2⟩
        have B2 := Lib.hid (HB.out.trans (b2.mono hb))
        clear b2 HB
        clear A
        go_wp2_with fail
        go_ret2
        exact ⟨ret_ib (by rw [F.out]) (by rw [F.out]), B1.out.trans (B2.out.mono hz1)⟩
      | false =>
        have N := Lib.hid (prv_miss hz.out hlt ha)
        rw [ha] at A
        clear ha hz
        go_wp2_with fail
        refine A.out.mono ?_
        rintro e w2 ⟨rfl, b2⟩
        have B2 := Lib.hid (HB.out.trans (b2.mono hb))
        clear b2 HB
        clear A
        go_wp2_with fail
        go_roundw
        case rel => exact ⟨dd - 1, by go_num, by omega, N, B2⟩
        case measure => simp [intOf]; omega
    · have dk : decide (0 ≤ dd) = false := decide_eq_false hlt
      have F := Lib.hid (prv_end hz.out (by omega))
      clear hlt hz
      go_wp2_with fail
      go_ret2
      exact ⟨ret_ib (by rw [F.out]) (by rw [F.out]), B1.out.trans (HB.out.mono hz1)⟩
end Go.Proofs.Ytlbockpaeacigaa
