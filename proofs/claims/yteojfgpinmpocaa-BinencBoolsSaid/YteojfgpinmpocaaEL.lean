/-
  Byte strings and lists read: Bytes and Ints of package binenc and of the reference: what each call answers; nothing that existed before has changed. Condition: at most 2^20 bytes, the limit an int.
-/
import Derived.Test.YteojfgpinmpocaaEI
import Derived.Test.YteojfgpinmpocaaEB
import Derived.Test.YteojfgpinmpocaaDrw
namespace Go.Proofs.Yteojfgpinmpocaa
open Go.RowKit

/-- What a call hands back: a byte string (a list) of its own, an index, an error. -/
abbrev Gives3B (f : FuncId) (args : Array Value) (w : World) (r : List UInt8 × Int × Int) : Prop :=
  Calls Try.prog f args w fun e w' => ∃ u, e = .returned (.tuple #[u, .int .i64 r.2.1, .int .i64 r.2.2]) ∧ OwnB w' w.heap.size u r.1 ∧ Below w.heap.size w w'
abbrev Gives3I (f : FuncId) (args : Array Value) (w : World) (r : List Int × Int × Int) : Prop :=
  Calls Try.prog f args w fun e w' => ∃ u, e = .returned (.tuple #[u, .int .i64 r.2.1, .int .i64 r.2.2]) ∧ OwnI w' w.heap.size u r.1 ∧ Below w.heap.size w w'
theorem ret_3u {u : Value} {b c y z : Int} (h1 : b = y) (h2 : c = z) : Ending.returned (.tuple #[u, .int .i64 b, .int .i64 c]) = Ending.returned (.tuple #[u, .int .i64 y, .int .i64 z]) := by rw [h1, h2]
set_option maxRecDepth 100000 in
set_option maxHeartbeats 1000000 in
theorem bytes_any (v : Value) (l : List UInt8) (hl : l.length ≤ 1048576) (a m : Int) (hm : m ≤ 9223372036854775807) (w : World) (h : LstB w v l) : Gives3B 28 #[v, .int .i64 a, .int .i64 m] w (rB l a m) := by
  have M := Lib.hid (len_any v l (by omega) a m hm w h)
  rcases rN_cases l a m with ⟨e, hr, he⟩ | ⟨p, n, x, -, hr, hx, -, hp, -, -⟩
  · rw [rB_bad hr (by omega)]
    rw [hr] at M
    have t1 : (e != 0) = true := bne_true (by omega)
    clear hr he
    go_enter Try.func28, Try.ntmps28
    go_wp2_with fail
    refine M.out.mono ?_
    rintro e w' ⟨rfl, rfl⟩
    go_wp2_with fail
    go_ret3
    exact ⟨_, rfl, OwnB.nil _ _, Below.refl _ _⟩
  · rw [hr] at M
    have k1 : (x : Int) ≤ 9223372036854775807 := by omega
    generalize p + n = q at M hr hp
    have k2 : (q : Int) ≤ (l.length : Int) := by omega
    by_cases hc : l.length < q + x
    · rw [rB_cut hr hc]
      have t1 : (l.length : Int) - (q : Int) < (x : Int) := by omega
      obtain ⟨A, c, rfl, -⟩ := h
      clear hr hc
      go_enter Try.func28, Try.ntmps28
      go_wp2_with fail
      refine M.out.mono ?_
      rintro e w' ⟨rfl, rfl⟩
      go_wp2_with fail
      go_ret3
      exact ⟨_, rfl, OwnB.nil _ _, Below.refl _ _⟩
    · rw [rB_good hr (by omega)]
      have t1 : decide ((l.length : Int) - (q : Int) < (x : Int)) = false := decide_eq_false (by omega)
      have k3 : (x : Int) ≤ 1048576 := by omega
      have mk := mk_run x (by omega) (x : Int) rfl
      have hlen : ((l.drop q).take x).length = x := by rw [List.length_take, List.length_drop]; omega
      obtain ⟨y, sl, hy⟩ := bts_from h q (by omega) (q : Int) rfl
      obtain ⟨A', c', rfl, -, -, hcell⟩ := hy
      have hd : (l.drop q).length = l.length - q := List.length_drop
      obtain ⟨D, hD⟩ : ∃ D, l.drop q = D := ⟨_, rfl⟩
      rw [hD] at hcell hlen hd sl
      have LD := Lib.hid hd
      have HL := Lib.hid hlen
      obtain ⟨w2, hw2⟩ : ∃ z, w.alloc (.cells (zerosB x).toArray 5 (0, 0)) = z := ⟨_, rfl⟩
      have K2 : Hid (w2.heap[w.heap.size]? = some (.cells (zerosB x).toArray 5 (0, 0)) ∧ Below w.heap.size w w2) := by
        rw [← hw2]
        exact ⟨heap_alloc_new _ _, (Below.refl _ _).alloc (Nat.le_refl _) _⟩
      have S1 : Hid (0 < (bts (D.take x)).length → ∃ ad, A' = some ad ∧ ∀ (j : Nat) u, (bts (D.take x))[j]? = some u → w2.cell? (ad.add j) = some u) := by
        intro h0
        rw [List.length_map] at h0
        obtain ⟨b, o, hA, hb, hc⟩ := hcell (by rw [List.length_take] at h0; omega)
        refine ⟨_, hA, fun j u hu => ?_⟩
        rw [Addr.add_lit]
        refine (K2.out.2.cell (p := ⟨b, o + j, none⟩) hb).trans (hc j u ?_)
        have hj := (List.getElem?_eq_some_iff.1 hu).1
        rw [List.length_map, List.length_take] at hj
        rw [← hu]
        unfold bts
        rw [List.getElem?_map, List.getElem?_map, List.getElem?_take, if_pos (by omega)]
      have NM : Hid ((bts (D.take x)).length = Nat.min D.length x) := by
        show _ = _
        rw [List.length_map, List.length_take, Nat.min_comm]
      have FT : Hid (0 + (bts (D.take x)).length ≤ (zerosB x).length) := by
        show _ ≤ _
        rw [zeros_len, List.length_map, hlen, Nat.zero_add]
        exact Nat.le_refl _
      have BO := Lib.hid (bts_one (D.take x))
      have FB : Hid (splice (zerosB x) 0 (bts (D.take x)) = bts (D.take x)) := by
        show _ = _
        unfold splice
        rw [List.take_zero, List.nil_append, List.drop_eq_nil_of_le (by rw [zeros_len, List.length_map, hlen]; omega), List.append_nil]
      rw [hD]
      generalize D.take x = E at S1 NM FT BO FB HL ⊢
      obtain ⟨A, c, rfl, -⟩ := h
      clear hr hc hcell hlen hd hD
      go_enter Try.func28, Try.ntmps28
      go_wp2_with fail
      refine M.out.mono ?_
      rintro e w' ⟨rfl, rfl⟩
      go_wp2_with (with_reducible refine at_copy ?_; refine wpList_copy_splice rfl (.tmp 32) (.tmp 35) 23 23 rfl 5 Try.underlying23 info_size_u8 _ _ _ _ _ _ rfl rfl w.heap.size 0 (zerosB x) 5 K2.out.1 (bts E) NM.out (fun h0 => ⟨rfl, S1.out h0⟩) FT.out BO.out w.heap.size w K2.out.2 (Nat.le_refl _) ?_; intro w4 HG4 b4; have B4 := Lib.hid b4; clear b4)
      go_ret3
      refine ⟨_, ret_3u (by omega) rfl, own_filled HG4.out FB.out HL.out (Nat.le_refl _) (by omega), B4.out⟩
set_option maxRecDepth 100000 in
set_option maxHeartbeats 1000000 in
theorem rbytes_any (v : Value) (l : List UInt8) (hl : l.length ≤ 1048576) (a m : Int) (hm : m ≤ 9223372036854775807) (w : World) (h : LstB w v l) : Gives3B 29 #[v, .int .i64 a, .int .i64 m] w (rB l a m) := by
  have M := Lib.hid (rlen_any v l (by omega) a m hm w h)
  rcases rN_cases l a m with ⟨e, hr, he⟩ | ⟨p, n, x, -, hr, hx, -, hp, -, -⟩
  · rw [rB_bad hr (by omega)]
    rw [hr] at M
    have t1 : (e != 0) = true := bne_true (by omega)
    clear hr he
    go_enter Try.func29, Try.ntmps29
    go_wp2_with fail
    refine M.out.mono ?_
    rintro e w' ⟨rfl, rfl⟩
    go_wp2_with fail
    go_ret3
    exact ⟨_, rfl, OwnB.nil _ _, Below.refl _ _⟩
  · rw [hr] at M
    have k1 : (x : Int) ≤ 9223372036854775807 := by omega
    generalize p + n = q at M hr hp
    have k2 : (q : Int) ≤ (l.length : Int) := by omega
    by_cases hc : l.length < q + x
    · rw [rB_cut hr hc]
      have t1 : (l.length : Int) - (q : Int) < (x : Int) := by omega
      obtain ⟨A, c, rfl, -⟩ := h
      clear hr hc
      go_enter Try.func29, Try.ntmps29
      go_wp2_with fail
      refine M.out.mono ?_
      rintro e w' ⟨rfl, rfl⟩
      go_wp2_with fail
      go_ret3
      exact ⟨_, rfl, OwnB.nil _ _, Below.refl _ _⟩
    · rw [rB_good hr (by omega)]
      have t1 : decide ((l.length : Int) - (q : Int) < (x : Int)) = false := decide_eq_false (by omega)
      have k3 : (x : Int) ≤ 1048576 := by omega
      obtain ⟨y, sl, hy⟩ := bts_mid h q (q + x) (by omega) (by omega) (q : Int) ((q : Int) + (x : Int)) rfl (by omega)
      rw [Nat.add_sub_cancel_left] at hy
      have HY := Lib.hid hy
      have HL := Lib.hid (show ((l.drop q).take x).length ≤ 1048576 by rw [List.length_take, List.length_drop]; omega)
      generalize (l.drop q).take x = E at HY HL ⊢
      obtain ⟨A, c, rfl, -⟩ := h
      clear hr hc hy
      go_enter Try.func29, Try.ntmps29
      go_wp2_with fail
      refine M.out.mono ?_
      rintro e w' ⟨rfl, rfl⟩
      go_wp2_with (at_builtin; refine app_lstb _ rfl (.tmp 30) (.tmp 36) rfl w.heap.size _ [] E rfl (OwnB.nil _ _) _ rfl HY.out (Nat.le_refl _) (by have := HL.out; simp; omega) ?_; intro v2 w2 own2 b2; have O2 : Hid (OwnB w2 w.heap.size v2 E) := own2; have B2 := Lib.hid b2; clear own2 b2)
      go_ret3
      exact ⟨_, ret_3u (by omega) rfl, O2.out, B2.out⟩
set_option maxRecDepth 100000 in
set_option maxHeartbeats 1000000 in
theorem ints_any (v : Value) (l : List UInt8) (hl : l.length ≤ 1048576) (a m : Int) (hm : m ≤ 9223372036854775807) (w : World) (h : LstB w v l) : Gives3I 32 #[v, .int .i64 a, .int .i64 m] w (rL l a m) := by
  have M := Lib.hid (len_any v l (by omega) a m hm w h)
  rcases rN_cases l a m with ⟨e, hr, he⟩ | ⟨p, n, x, -, hr, hx, -, hp, -, -⟩
  · rw [rL_bad hr (by omega)]
    rw [hr] at M
    have t1 : (e != 0) = true := bne_true (by omega)
    clear hr he
    go_enter Try.func32, Try.ntmps32
    go_wp2_with fail
    refine M.out.mono ?_
    rintro e w' ⟨rfl, rfl⟩
    go_wp2_with fail
    go_ret3
    exact ⟨_, rfl, OwnI.nil _ _, Below.refl _ _⟩
  · rw [hr] at M
    rw [rL_good hr]
    have k1 : (x : Int) ≤ 9223372036854775807 := by omega
    generalize p + n = q at M hr hp ⊢
    obtain ⟨R, hR⟩ : ∃ R, intsF l x (q : Int) = R := ⟨_, rfl⟩
    rw [hR]
    have HR : Hid (joinF [] (intsF l (x - 0) ((q : Nat) : Int)) = R) := (joinF_nil _ _ _).trans hR
    have HI := Lib.hid (fun (k : Nat) W (hw : Below w.heap.size w W) => int_any v l (by omega) (k : Int) W (h.below hw))
    have HP := Lib.hid hp
    clear hr hR hx
    go_enter Try.func32, Try.ntmps32
    go_wp2_with fail
    refine M.out.mono ?_
    rintro e w' ⟨rfl, rfl⟩
    go_wp2_with fail
    go_loopw [10, 12, 28] (fun nv u i wr => ∃ (k q : Nat) (acc : List Int), i = .int .i64 k ∧ nv = .int .i64 q ∧ k ≤ x ∧ Hid (joinF acc (intsF l (x - k) (q : Int)) = R) ∧ Hid (q ≤ l.length ∧ acc.length ≤ q) ∧ Hid (OwnI wr w.heap.size u acc) ∧ Hid (Below w.heap.size w wr)) (fun _ _ i _ => x - (intOf i).toNat)
    case atStart => exact ⟨0, q, [], rfl, rfl, Nat.zero_le _, HR, Lib.hid ⟨HP.out, Nat.zero_le _⟩, Lib.hid (OwnI.nil _ _), Lib.hid (Below.refl _ _)⟩
    case round =>
      clear HR
      obtain ⟨k, q, acc, rfl, rfl, hk, hr, hq, HO, HB⟩ := hrel
      by_cases hlt : k < x
      · have gk : (k : Int) < (x : Int) := by omega
        have I := Lib.hid (HI.out q wr HB.out)
        have e1 : x - k = x - (k + 1) + 1 := by omega
        have hr1 := hr.out
        rw [e1] at hr1
        rcases rI_cases l q with ⟨e, hi, he⟩ | ⟨p', n', y, hp', hi, hn1, hn2, -, -⟩
        · rw [hi] at I
          rw [joinF_bad acc hi (by omega)] at hr1
          subst hr1
          have t1 : (e != 0) = true := bne_true (by omega)
          clear hi he e1 hr
          go_wp2_with fail
          refine I.out.mono ?_
          rintro e w' ⟨rfl, rfl⟩
          go_wp2_with fail
          go_ret3
          exact ⟨_, rfl, OwnI.nil _ _, HB.out⟩
        · rw [hi] at I
          rw [joinF_step acc hi] at hr1
          have HR2 := Lib.hid hr1
          obtain rfl : q = p' := by omega
          have HQ2 : Hid (q + n' ≤ l.length ∧ (acc ++ [y]).length ≤ q + n') := ⟨hn2, by have := hq.out.2; rw [List.length_append, List.length_singleton]; omega⟩
          have LA := Lib.hid (show acc.length + 1 ≤ 1099511627776 by have := hq.out; omega)
          have hz := HB.out.size
          generalize q + n' = q2 at I HR2 HQ2
          clear hi e1 hr hr1 hq hn1 hn2 hp'
          go_wp2_with fail
          refine I.out.mono ?_
          rintro e w' ⟨rfl, rfl⟩
          go_wp2_with (at_builtin; refine app_int _ rfl (.tmp 40) (.tmp 42) rfl w.heap.size _ acc y rfl (World.ownsRow.alloc HO.out _) wr.heap.size _ (heap_alloc_new _ _) rfl rfl (by simp; omega) LA.out ?_; intro v1 w1 own1 b1; have O1 := Lib.hid own1; have B1 := Lib.hid ((HB.out.alloc hz _).trans b1); clear own1 b1)
          go_roundw
          case rel => exact ⟨k + 1, q2, acc ++ [y], by go_num, by go_num, by omega, HR2, HQ2, O1, B1⟩
          case measure => simp [intOf]; omega
      · have d : decide (k < x) = false := by rw [decide_eq_false_iff_not]; exact hlt
        have hr1 := hr.out
        rw [show x - k = 0 by omega, joinF_end] at hr1
        subst hr1
        clear hlt hr
        go_wp2_with fail
        go_ret3
        exact ⟨_, rfl, HO.out, HB.out⟩
set_option maxRecDepth 100000 in
set_option maxHeartbeats 1000000 in
theorem rints_any (v : Value) (l : List UInt8) (hl : l.length ≤ 1048576) (a m : Int) (hm : m ≤ 9223372036854775807) (w : World) (h : LstB w v l) : Gives3I 33 #[v, .int .i64 a, .int .i64 m] w (rL l a m) := by
  have M := Lib.hid (rlen_any v l (by omega) a m hm w h)
  rcases rN_cases l a m with ⟨e, hr, he⟩ | ⟨p, n, x, -, hr, hx, -, hp, -, -⟩
  · rw [rL_bad hr (by omega)]
    rw [hr] at M
    have t1 : (e != 0) = true := bne_true (by omega)
    clear hr he
    go_enter Try.func33, Try.ntmps33
    go_wp2_with fail
    refine M.out.mono ?_
    rintro e w' ⟨rfl, rfl⟩
    go_wp2_with fail
    go_ret3
    exact ⟨_, rfl, OwnI.nil _ _, Below.refl _ _⟩
  · rw [hr] at M
    rw [rL_good hr]
    have k1 : (x : Int) ≤ 9223372036854775807 := by omega
    generalize p + n = q at M hr hp ⊢
    obtain ⟨R, hR⟩ : ∃ R, intsF l x (q : Int) = R := ⟨_, rfl⟩
    rw [hR]
    have HR : Hid (joinF [] (intsF l (x - 0) ((q : Nat) : Int)) = R) := (joinF_nil _ _ _).trans hR
    have HI := Lib.hid (fun (k : Nat) W (hw : Below w.heap.size w W) => rint_any v l (by omega) (k : Int) W (h.below hw))
    have HP := Lib.hid hp
    clear hr hR hx
    go_enter Try.func33, Try.ntmps33
    go_wp2_with fail
    refine M.out.mono ?_
    rintro e w' ⟨rfl, rfl⟩
    go_wp2_with fail
    go_loopw [10, 12, 13] (fun nv u i wr => ∃ (k q : Nat) (acc : List Int), i = .int .i64 k ∧ nv = .int .i64 q ∧ k ≤ x ∧ Hid (joinF acc (intsF l (x - k) (q : Int)) = R) ∧ Hid (q ≤ l.length ∧ acc.length ≤ q) ∧ Hid (OwnI wr w.heap.size u acc) ∧ Hid (Below w.heap.size w wr)) (fun _ _ i _ => x - (intOf i).toNat)
    case atStart => exact ⟨0, q, [], rfl, rfl, Nat.zero_le _, HR, Lib.hid ⟨HP.out, Nat.zero_le _⟩, Lib.hid (OwnI.nil _ _), Lib.hid (Below.refl _ _)⟩
    case round =>
      clear HR
      obtain ⟨k, q, acc, rfl, rfl, hk, hr, hq, HO, HB⟩ := hrel
      by_cases hlt : k < x
      · have gk : (k : Int) < (x : Int) := by omega
        have I := Lib.hid (HI.out q wr HB.out)
        have e1 : x - k = x - (k + 1) + 1 := by omega
        have hr1 := hr.out
        rw [e1] at hr1
        rcases rI_cases l q with ⟨e, hi, he⟩ | ⟨p', n', y, hp', hi, hn1, hn2, -, -⟩
        · rw [hi] at I
          rw [joinF_bad acc hi (by omega)] at hr1
          subst hr1
          have t1 : (e != 0) = true := bne_true (by omega)
          clear hi he e1 hr
          go_wp2_with fail
          refine I.out.mono ?_
          rintro e w' ⟨rfl, rfl⟩
          go_wp2_with fail
          go_ret3
          exact ⟨_, rfl, OwnI.nil _ _, HB.out⟩
        · rw [hi] at I
          rw [joinF_step acc hi] at hr1
          have HR2 := Lib.hid hr1
          obtain rfl : q = p' := by omega
          have HQ2 : Hid (q + n' ≤ l.length ∧ (acc ++ [y]).length ≤ q + n') := ⟨hn2, by have := hq.out.2; rw [List.length_append, List.length_singleton]; omega⟩
          have LA := Lib.hid (show acc.length + 1 ≤ 1099511627776 by have := hq.out; omega)
          have hz := HB.out.size
          generalize q + n' = q2 at I HR2 HQ2
          clear hi e1 hr hr1 hq hn1 hn2 hp'
          go_wp2_with fail
          refine I.out.mono ?_
          rintro e w' ⟨rfl, rfl⟩
          go_wp2_with (at_builtin; refine app_int _ rfl (.tmp 43) (.tmp 45) rfl w.heap.size _ acc y rfl (World.ownsRow.alloc HO.out _) wr.heap.size _ (heap_alloc_new _ _) rfl rfl (by simp; omega) LA.out ?_; intro v1 w1 own1 b1; have O1 := Lib.hid own1; have B1 := Lib.hid ((HB.out.alloc hz _).trans b1); clear own1 b1)
          go_roundw
          case rel => exact ⟨k + 1, q2, acc ++ [y], by go_num, by go_num, by omega, HR2, HQ2, O1, B1⟩
          case measure => simp [intOf]; omega
      · have d : decide (k < x) = false := by rw [decide_eq_false_iff_not]; exact hlt
        have hr1 := hr.out
        rw [show x - k = 0 by omega, joinF_end] at hr1
        subst hr1
        clear hlt hr
        go_wp2_with fail
        go_ret3
        exact ⟨_, rfl, HO.out, HB.out⟩
end Go.Proofs.Yteojfgpinmpocaa
