/-
  Unique, of package ident and of its reference: what each call answers; nothing that existed before the call has changed behind it. Condition: at most 1000 strings of at most 2^20 bytes each.
-/
import Derived.Test.YtfmajfmimgcfnaaICmp
import Derived.Test.YtfmajfmimgcfnaaMap
namespace Go.Proofs.Ytfmajfmimgcfnaa
open Go.RowKit

theorem uniq_start (l : List (List UInt8)) : uniqR l = uniqFrom l (l.length + 1 - 0) 0 := rfl
theorem uniq_next {l : List (List UInt8)} {k : Nat} {x : List UInt8} (hk : k < l.length) (h : uniqR l = uniqFrom l (l.length + 1 - k) k) (hx : l[k]? = some x) (hv : validB x = true) (hm : x ∉ l.take k) : uniqR l = uniqFrom l (l.length + 1 - (k + 1)) (k + 1) := by
  rw [h, show l.length + 1 - k = (l.length + 1 - (k + 1)) + 1 by omega]
  exact uniq_good l _ k x hx hv hm
theorem uniq_bad {l : List (List UInt8)} {k : Nat} {x : List UInt8} (hk : k < l.length) (h : uniqR l = uniqFrom l (l.length + 1 - k) k) (hx : l[k]? = some x) (hv : validB x = false) : uniqR l = ((k : Int), (12 : Int)) := by
  rw [h, show l.length + 1 - k = (l.length + 1 - (k + 1)) + 1 by omega]
  exact uniq_name l _ k x hx hv
theorem uniq_dup {l : List (List UInt8)} {k : Nat} {x : List UInt8} (hk : k < l.length) (h : uniqR l = uniqFrom l (l.length + 1 - k) k) (hx : l[k]? = some x) (hv : validB x = true) (hm : x ∈ l.take k) : uniqR l = ((k : Int), (6 : Int)) := by
  rw [h, show l.length + 1 - k = (l.length + 1 - (k + 1)) + 1 by omega]
  exact uniq_twice l _ k x hx hv hm
theorem uniq_done {l : List (List UInt8)} {k : Nat} (hk : l.length ≤ k) (h : uniqR l = uniqFrom l (l.length + 1 - k) k) : uniqR l = ((0 : Int), (0 : Int)) := by
  rw [h]
  exact uniq_end l _ k hk
theorem ret_uni {l : List (List UInt8)} {a b : Int} (h : uniqR l = (a, b)) : Ending.returned (.tuple #[.int .i64 a, .int .i64 b]) = Ending.returned (.tuple #[.int .i64 (uniqR l).1, .int .i64 (uniqR l).2]) := by rw [h]
/-- The part of a list ahead of an index. -/
theorem lst_to {w : World} {v : Value} {l : List (List UInt8)} (h : Lst w v l) (j : Nat) (hj : j ≤ l.length) (e : Int) (he : e = j) : ∃ x, (∀ W, (Instr.slice 26 v none (some (.int .i64 e)) none).run Try.prog W = .ok x W) ∧ Lst w x (l.take j) := by
  subst he
  obtain ⟨A, c, rfl, ⟨hc, hnc⟩, hx⟩ := h
  have hel : Try.prog.elem 26 = 9 := by simp [Program.elem, Try.underlying26]
  have hun : Try.prog.underlying 26 = some (.slice (Try.prog.elem 26)) := by rw [hel]; exact Try.underlying26
  have hsz : ∀ w, (Go.sizeOf 9).run Try.prog w = .ok 1 w := fun w => by
    obtain ⟨i, hi, _, hsz, _⟩ := info_parts info_str
    simp [sizeOf, typeInfo, hi, hsz]
  have hlen : (l.take j).length = j := by rw [List.length_take]; omega
  refine ⟨sliced A 0 j c 1, fun W => ?_, if c = 0 then A else A.map (·.add (0 * 1)), c - 0, ?_, ⟨by omega, fun h => ?_⟩, fun h0 => ?_⟩
  · rw [run_slice_h W 26 A l.length c hun .i64 j (by omega) (by omega), hel, hsz]
    rfl
  · unfold sliced
    rw [hlen]
    rfl
  · split at h
    · next h0 => omega
    · cases A with
      | none => have := hnc rfl; omega
      | some a => simp at h
  · rw [hlen] at h0
    obtain ⟨b, o, rfl, hb, hcell⟩ := hx (by omega)
    refine ⟨b, o, ?_, hb, fun k x hk => hcell k x ?_⟩
    · rw [if_neg (by omega)]
      show some ((⟨b, o, none⟩ : Addr).add (0 * 1)) = _
      rw [Nat.zero_mul, Addr.add_lit, Nat.add_zero]
    · have hk2 := (List.getElem?_eq_some_iff.1 hk).1
      rw [List.length_map, hlen] at hk2
      rw [← hk]
      unfold sts
      rw [List.getElem?_map, List.getElem?_map, List.getElem?_take, if_pos hk2]

set_option maxHeartbeats 2000000 in
theorem unique_any (v : Value) (l : List (List UInt8)) (hl : l.length ≤ 1000) (hs : ∀ (j : Nat) x, l[j]? = some x → x.length ≤ 1048576) (w : World) (h : Lst w v l) : Calls Try.prog 18 #[v] w fun e w' => e = .returned (.tuple #[.int .i64 ((uniqR l).1), .int .i64 ((uniqR l).2)]) ∧ Below w.heap.size w w' := by
  obtain ⟨A, c, rfl, _, hx⟩ := h
  have HX := Lib.hid hx
  have HS := Lib.hid hs
  have hmm := @run_makeMap Try.prog
  clear hx hs
  go_enter Try.func18, Try.ntmps18
  go_wp2_with fail
  go_loopw [10] (fun i wr => ∃ k : Nat, i = .int .i64 k ∧ k ≤ l.length ∧ Hid (uniqR l = uniqFrom l (l.length + 1 - k) k) ∧ Hid (MapB wr w.heap.size (l.take k)) ∧ Hid (Below w.heap.size w wr)) (fun i _ => l.length - (intOf i).toNat)
  case atStart => exact ⟨0, rfl, Nat.zero_le _, Lib.hid rfl, Lib.hid (MapB.made w), Lib.hid ((Below.refl _ _).alloc (Nat.le_refl _) _)⟩
  case round =>
    obtain ⟨k, rfl, hk, hu, hm, hb⟩ := hrel
    by_cases hlt : k < l.length
    · obtain ⟨b, o, rfl, hbl, hcell⟩ := HX.out (by omega)
      obtain ⟨x, hx⟩ := at_lt hlt
      have hc := (hb.out.cell (p := ⟨b, o + k, none⟩) hbl).trans (hcell k _ (sts_at l k x hx))
      have hxl := HS.out k x hx
      obtain ⟨s, hs, hsz, hst⟩ := as_str x
      rw [hst] at hc
      have gk : (k : Int) < (l.length : Int) := by omega
      have V := Lib.hid (fun W => valid_any s (by omega) W)
      rw [hs] at V
      clear hcell HX HS
      cases hv : validB x with
      | false =>
        rw [hv] at V
        have R := Lib.hid (uniq_bad hlt hu.out hx hv)
        have B := hb
        clear hx hs hsz hst hu hm hb hv hxl hmm
        go_wp2_with fail
        refine (V.out _).mono ?_
        rintro e w' ⟨rfl, rfl⟩
        go_wp2_with fail
        go_ret2
        exact ⟨ret_uni R.out, B.out⟩
      | true =>
        rw [hv] at V
        have lk := hm.out.look s x hs (by omega)
        by_cases hd : x ∈ l.take k
        · rw [decide_eq_true hd] at lk
          have R := Lib.hid (uniq_dup hlt hu.out hx hv hd)
          have B := hb
          clear hx hs hsz hst hu hm hb hv hxl hd hmm
          go_wp2_with fail
          refine (V.out _).mono ?_
          rintro e w' ⟨rfl, rfl⟩
          go_wp2_with fail
          go_ret2
          exact ⟨ret_uni R.out, B.out⟩
        · rw [decide_eq_false hd] at lk
          have R := Lib.hid (uniq_next hlt hu.out hx hv hd)
          have HT := Lib.hid (take_at l k x hx)
          have HSX := Lib.hid hs
          have hsl : s.size ≤ 4611686018427387904 := by omega
          clear hx hs hsz hst hu hv hxl hd hmm
          go_wp2_with fail
          refine (V.out _).mono ?_
          rintro e w' ⟨rfl, rfl⟩
          go_wp2_with (at_mapUpdate; refine put_bool _ rfl _ _ _ rfl w.heap.size (l.take k) rfl hm.out s x HSX.out hsl rfl rfl (by rw [List.length_take]; omega) ?_; intro w1 m1 g1)
          have M : Hid (MapB w1 w.heap.size (l.take (k + 1))) := by
            show MapB _ _ _
            rw [HT.out]
            exact m1
          have B : Hid (Below w.heap.size w w1) := hb.out.grown g1 hb.out.size (fun j hj => by cases hj; exact Nat.le_refl _)
          clear m1 g1 hm hb
          go_wp2_with fail
          go_roundw
          case rel => exact ⟨k + 1, by go_num, by omega, R, M, B⟩
          case measure => simp [intOf]; omega
    · have R := Lib.hid (uniq_done (by omega) hu.out)
      have d : decide (k < l.length) = false := by rw [decide_eq_false_iff_not]; exact hlt
      have B := hb
      clear hu hm hb hlt HX HS hmm
      go_wp2_with fail
      go_ret2
      exact ⟨ret_uni R.out, B.out⟩
set_option maxHeartbeats 2000000 in
theorem runique_any (v : Value) (l : List (List UInt8)) (hl : l.length ≤ 1000) (hs : ∀ (j : Nat) x, l[j]? = some x → x.length ≤ 1048576) (w : World) (h : Lst w v l) : Calls Try.prog 19 #[v] w fun e w' => e = .returned (.tuple #[.int .i64 ((uniqR l).1), .int .i64 ((uniqR l).2)]) ∧ ∃ m, w' = w.drewN m := by
  have H := Lib.hid h
  obtain ⟨A, c, rfl, _, hx⟩ := h
  have HX := Lib.hid hx
  have HS := Lib.hid hs
  clear hx hs
  go_enter Try.func19, Try.ntmps19
  go_wp2_with fail
  go_loopw [4] (fun i wr => ∃ k : Nat, i = .int .i64 k ∧ k ≤ l.length ∧ Hid (uniqR l = uniqFrom l (l.length + 1 - k) k) ∧ Hid (∃ n, wr = w.drewN n)) (fun i _ => l.length - (intOf i).toNat)
  case atStart => exact ⟨0, rfl, Nat.zero_le _, Lib.hid rfl, Lib.hid ⟨0, rfl⟩⟩
  case round =>
    obtain ⟨k, rfl, hk, hu, hn⟩ := hrel
    by_cases hlt : k < l.length
    · obtain ⟨y, hy, hpart⟩ := lst_to H.out k (by omega) k rfl
      obtain ⟨b, o, rfl, hbl, hcell⟩ := HX.out (by omega)
      obtain ⟨x, hx⟩ := at_lt hlt
      have hc := ((drew_below hn.out).cell (p := ⟨b, o + k, none⟩) hbl).trans (hcell k _ (sts_at l k x hx))
      have hxl := HS.out k x hx
      obtain ⟨s, hs, hsz, hst⟩ := as_str x
      rw [hst] at hc
      have gk : (k : Int) < (l.length : Int) := by omega
      have V := Lib.hid (fun W => rvalid_any s (by omega) W)
      rw [hs] at V
      clear hcell HX HS
      cases hv : validB x with
      | false =>
        rw [hv] at V
        have R := Lib.hid (uniq_bad hlt hu.out hx hv)
        clear hx hs hsz hst hu hv hxl hy hpart
        go_wp2_with fail
        refine (V.out _).mono ?_
        rintro e w' ⟨rfl, rfl⟩
        go_wp2_with fail
        go_ret2
        exact ⟨ret_uni R.out, hn.out⟩
      | true =>
        rw [hv] at V
        have F := Lib.hid (fun W (hW : Lst W y (l.take k)) => rfind_any y (l.take k) (by rw [List.length_take]; omega) s W hW)
        rw [hs] at F
        by_cases hd : x ∈ l.take k
        · have R := Lib.hid (uniq_dup hlt hu.out hx hv hd)
          have hf := (find_in (l.take k) x).2 hd
          generalize findR (l.take k) x = f at F hf
          have P : Hid (∀ n, Lst (wr.drewN n) y (l.take k)) := fun n => hpart.below (drew_below (drew_on hn n).out)
          clear hx hs hsz hst hu hv hxl hd hpart
          go_wp2_with fail
          refine (V.out _).mono ?_
          rintro e w' ⟨rfl, rfl⟩
          go_wp2_with fail
          go_quiet ((go_at_call 22; with_reducible exact Calls.quiet_of_same ((F.out _ (P.out _)).mono fun _ _ ⟨a, b⟩ => ⟨a, b.symm⟩)))
          go_wp2_with fail
          go_ret2
          exact ⟨ret_uni R.out, (drew_on hn nq).out⟩
        · have R := Lib.hid (uniq_next hlt hu.out hx hv hd)
          have hf := find_miss (l.take k) x hd
          rw [hf] at F
          have P : Hid (∀ n, Lst (wr.drewN n) y (l.take k)) := fun n => hpart.below (drew_below (drew_on hn n).out)
          clear hx hs hsz hst hu hv hxl hd hpart hf
          go_wp2_with fail
          refine (V.out _).mono ?_
          rintro e w' ⟨rfl, rfl⟩
          go_wp2_with fail
          go_quiet ((go_at_call 22; with_reducible exact Calls.quiet_of_same ((F.out _ (P.out _)).mono fun _ _ ⟨a, b⟩ => ⟨a, b.symm⟩)))
          go_wp2_with fail
          go_roundw
          case rel => exact ⟨k + 1, by go_num, by omega, R, drew_on hn nq⟩
          case measure => simp [intOf]; omega
    · have R := Lib.hid (uniq_done (by omega) hu.out)
      have d : decide (k < l.length) = false := by rw [decide_eq_false_iff_not]; exact hlt
      clear hu hlt HX HS
      go_wp2_with fail
      go_ret2
      exact ⟨ret_uni R.out, hn.out⟩
end Go.Proofs.Ytfmajfmimgcfnaa
