/-
  Byte strings, bools and lists put: PutBytes, PutBool and PutInts of package binenc and of the reference: what each call answers; nothing that existed before has changed. Condition: at most 2^20 bytes or integers, the integers ints.
-/
import Derived.Test.YteojfgpinmpocaaEP2
import Derived.Test.YteojfgpinmpocaaOwnI
namespace Go.Proofs.Yteojfgpinmpocaa
open Go.RowKit

/-- b[h:] of a row of h + n bytes. -/
theorem cut_any (g h n : Nat) : ∃ dp c, (∀ W, (Instr.slice 23 (.slice (some ⟨g, 0, none⟩) (h + n) (h + n)) (some (.int .i64 (h : Int))) none none).run Try.prog W = .ok (.slice dp n c) W) ∧ (0 < n → dp = some ⟨g, h, none⟩) := by
  refine ⟨if h + n = h then some ⟨g, 0, none⟩ else some ⟨g, h, none⟩, h + n - h, fun W => ?_, fun h0 => if_neg (by omega)⟩
  rw [run_slice_l W 23 _ _ _ under_bts .i64 h (by omega) (by omega), elem_bts, size_u8]
  simp only [Result.andThen_ok, sliced, Int.toNat_natCast]
  rw [show h + n - h = n by omega]
  simp [Addr.add]
  by_cases h0 : h = 0 <;> simp [h0]
/-- The row that was filled. -/
theorem own_filled {w : World} {base g n : Nat} {xs : List Value} {l : List UInt8} (hg : w.heap[g]? = some (.cells xs.toArray 5 (0, 0))) (hx : xs = bts l) (hn : l.length = n) (hb : base ≤ g) (hl : n ≤ 1099511627776) : OwnB w base (.slice (some ⟨g, 0, none⟩) n n) l := by
  subst hx hn
  refine ⟨by simp, Or.inr ⟨g, l.length, _, rfl, hb, hg, Nat.le_refl _, by unfold maxLen; omega, by simp, ?_⟩⟩
  exact List.take_of_length_le (by simp)
set_option maxRecDepth 100000 in
set_option maxHeartbeats 1000000 in
theorem pbytes_any (v : Value) (l : List UInt8) (hl : l.length ≤ 1048576) (w : World) (h : LstB w v l) : GivesB 20 #[v] w (putB l) := by
  have M := Lib.hid (puint_any l.length (by omega) w)
  have H := Lib.hid h
  have hp := putU_len l.length
  have R := Lib.hid (show putB l = putU l.length ++ l from rfl)
  generalize putU l.length = P at M hp R
  have HP := Lib.hid hp
  obtain ⟨A, cap, rfl, -, -, hx⟩ := h
  have HX := Lib.hid hx
  clear hx hp
  go_enter Try.func20, Try.ntmps20
  go_wp2_with fail
  refine M.out.mono ?_
  rintro e w1 ⟨u1, rfl, o1, b1⟩
  have hp := HP.out
  obtain ⟨A1, c1, rfl, hc1, -, hx1⟩ := o1.lst
  obtain ⟨b, o, rfl, hb, hcc⟩ := hx1 (by omega)
  have HB := Lib.hid b1
  have mk := mk_run (P.length + l.length) (by omega) ((P.length : Int) + (l.length : Int)) (by omega)
  obtain ⟨dp, cd, cu, hdp⟩ := cut_any w1.heap.size P.length l.length
  have HD := Lib.hid hdp
  have hz := b1.size
  obtain ⟨w2, hw2⟩ : ∃ x, w1.alloc (.cells (zerosB (P.length + l.length)).toArray 5 (0, 0)) = x := ⟨_, rfl⟩
  have K2 : Hid (w2.heap[w1.heap.size]? = some (.cells (zerosB (P.length + l.length)).toArray 5 (0, 0)) ∧ Below w1.heap.size w1 w2) := by
    rw [← hw2]
    exact ⟨heap_alloc_new _ _, (Below.refl _ _).alloc (Nat.le_refl _) _⟩
  have S1 : Hid (∀ (j : Nat) u, (bts P)[j]? = some u → w2.cell? ((⟨b, o, none⟩ : Addr).add j) = some u) := by
    intro j u hu
    rw [Addr.add_lit]
    exact (K2.out.2.cell (p := ⟨b, o + j, none⟩) hb).trans (hcc j u hu)
  clear hx1 hcc hc1 o1 b1 hdp
  go_wp2_with (first
    | (with_reducible refine at_copy ?_; refine wpList_copy_splice rfl (.tmp 15) (.tmp 16) 23 23 rfl 5 Try.underlying23 info_size_u8 _ _ _ _ _ _ rfl rfl w1.heap.size 0 (zerosB (P.length + l.length)) 5 K2.out.1 (bts P) (by rw [List.length_map]; exact (Nat.min_eq_left (by omega)).symm) (fun h0 => ⟨rfl, _, rfl, S1.out⟩) (by rw [zeros_len, List.length_map]; omega) (bts_one P) w1.heap.size w1 K2.out.2 (Nat.le_refl _) ?_
       intro w4 HG4 b4
       have B4 := Lib.hid b4
       have S2 : Hid (0 < (bts l).length → ∃ ad, A = some ad ∧ ∀ (j : Nat) u, (bts l)[j]? = some u → w4.cell? (ad.add j) = some u) := by
         intro h0
         rw [List.length_map] at h0
         obtain ⟨b, o, hA, hb, hc⟩ := HX.out h0
         refine ⟨_, hA, fun j u hu => ?_⟩
         rw [Addr.add_lit]
         exact (B4.out.cell (p := ⟨b, o + j, none⟩) (Nat.lt_of_lt_of_le hb hz)).trans ((HB.out.cell (p := ⟨b, o + j, none⟩) hb).trans (hc j u hu))
       have FT : Hid (P.length + (bts l).length ≤ (splice (zerosB (P.length + l.length)) 0 (bts P)).length) := by
         show _ ≤ _
         rw [length_splice _ _ _ (by rw [zeros_len, List.length_map]; omega), zeros_len, List.length_map]
         exact Nat.le_refl _
       clear b4)
    | (with_reducible refine at_copy ?_; refine wpList_copy_splice rfl (.tmp 21) (.tmp 22) 23 23 rfl 5 Try.underlying23 info_size_u8 _ _ _ _ _ _ rfl rfl w1.heap.size P.length (splice (zerosB (P.length + l.length)) 0 (bts P)) 5 HG4.out (bts l) (by rw [List.length_map]; exact (Nat.min_self _).symm) (fun h0 => ⟨HD.out (by rw [List.length_map] at h0; exact h0), S2.out h0⟩) FT.out (bts_one l) w1.heap.size w1 B4.out (Nat.le_refl _) ?_
       intro w5 HG5 b5
       have B5 := Lib.hid b5
       clear b5))
  go_ret
  refine ⟨_, rfl, own_filled HG5.out ?_ ?_ hz (by omega), HB.out.trans (B5.out.mono hz)⟩
  · rw [R.out, splice_two (zerosB (P.length + l.length)) (bts P) (bts l) P.length (by rw [List.length_map]) (by rw [zeros_len, List.length_map])]
    unfold bts
    rw [List.map_append]
  · rw [R.out, List.length_append]
theorem rpbytes_any (v : Value) (l : List UInt8) (hl : l.length ≤ 1048576) (w : World) (h : LstB w v l) : GivesB 21 #[v] w (putB l) := by
  have M := Lib.hid (rpuint_any l.length (by omega) w)
  have H := Lib.hid h
  have hp := putU_len l.length
  have R := Lib.hid (show putB l = putU l.length ++ l from rfl)
  generalize putU l.length = P at M hp R
  have HP := Lib.hid hp
  obtain ⟨A, cap, rfl, -, -, -⟩ := h
  clear hp
  go_enter Try.func21, Try.ntmps21
  go_wp2_with fail
  refine M.out.mono ?_
  rintro e w1 ⟨u1, rfl, o1, b1⟩
  have O1 := Lib.hid o1
  have B1 := Lib.hid b1
  have hz := b1.size
  clear o1 b1
  go_wp2_with (at_builtin; refine app_lstb _ rfl (.tmp 6) (.tmp 7) rfl w.heap.size _ P l rfl O1.out _ rfl (H.out.below B1.out) hz (by have := HP.out; omega) ?_; intro v2 w2 own2 b2; have O2 := Lib.hid own2; have B2 := Lib.hid (B1.out.trans b2); clear own2 b2)
  go_ret
  exact ⟨_, rfl, by rw [R.out]; exact O2.out, B2.out⟩
theorem one_own (w : World) (x : UInt8) : OwnB (w.alloc (.cells #[.int .u8 (x.toNat : Int)] 5 (0, 0))) w.heap.size (.slice (some ⟨w.heap.size, 0, none⟩) 1 1) [x] := own_filled (xs := bts [x]) (heap_alloc_new _ _) rfl rfl (Nat.le_refl _) (by omega)
theorem pbool_any (v : Bool) (w : World) : GivesB 17 #[.bool v] w (putT v) := by
  cases v
  · go_enter Try.func17, Try.ntmps17
    go_wp2_with fail
    go_ret
    exact ⟨_, rfl, one_own w 0, (Below.refl _ _).alloc (Nat.le_refl _) _⟩
  · go_enter Try.func17, Try.ntmps17
    go_wp2_with fail
    go_ret
    exact ⟨_, rfl, one_own w 1, (Below.refl _ _).alloc (Nat.le_refl _) _⟩
theorem rpbool_any (v : Bool) (w : World) : GivesB 18 #[.bool v] w (putT v) := by
  cases v
  · go_enter Try.func18, Try.ntmps18
    go_wp2_with fail
    go_ret
    exact ⟨_, rfl, one_own w 0, (Below.refl _ _).alloc (Nat.le_refl _) _⟩
  · go_enter Try.func18, Try.ntmps18
    go_wp2_with fail
    go_ret
    exact ⟨_, rfl, one_own w 1, (Below.refl _ _).alloc (Nat.le_refl _) _⟩
theorem flat_take {l : List Int} {k : Nat} {x : Int} (h : l[k]? = some x) : flatI (l.take (k + 1)) = flatI (l.take k) ++ putI x := by rw [take_at l k x h, flatI_snoc]
set_option maxRecDepth 100000 in
set_option maxHeartbeats 1000000 in
theorem pints_any (v : Value) (l : List Int) (hl : l.length ≤ 1048576) (hi : ∀ x ∈ l, I64 x) (w : World) (h : LstI w v l) : GivesB 22 #[v] w (putL l) := by
  have M := Lib.hid (puint_any l.length (by omega) w)
  have I := Lib.hid (fun (k : Nat) (x : Int) (hx : l[k]? = some x) W => pint_any x (hi x (List.mem_iff_getElem?.2 ⟨k, hx⟩)) W)
  have hp := putU_len l.length
  have R := Lib.hid (show putL l = putU l.length ++ flatI l from rfl)
  generalize putU l.length = P at M hp R
  have HP := Lib.hid hp
  obtain ⟨A, cap, rfl, -, -, hcell⟩ := h
  have HX := Lib.hid hcell
  clear hp hcell hi
  go_enter Try.func22, Try.ntmps22
  go_wp2_with fail
  refine M.out.mono ?_
  rintro e w1 ⟨u1, rfl, o1, b1⟩
  have O1 := Lib.hid o1
  have B1 := Lib.hid b1
  clear o1 b1 M
  go_wp2_with fail
  go_loopw [3, 12] (fun u i wr => ∃ k : Nat, i = .int .i64 k ∧ k ≤ l.length ∧ Hid (OwnB wr w.heap.size u (P ++ flatI (l.take k))) ∧ Hid (Below w.heap.size w wr)) (fun _ i _ => l.length - (intOf i).toNat)
  case atStart => exact ⟨0, rfl, Nat.zero_le _, Lib.hid (by rw [List.take_zero]; show OwnB _ _ _ (P ++ []); rw [List.append_nil]; exact O1.out), B1⟩
  case round =>
    clear O1 B1
    obtain ⟨k, rfl, hk, HO, HB⟩ := hrel
    by_cases hlt : k < l.length
    · obtain ⟨x, hx⟩ := at_lt hlt
      obtain ⟨b, o, rfl, hb, hcc⟩ := HX.out (by omega)
      have m1 := (HB.out.cell (p := ⟨b, o + k, none⟩) hb).trans (hcc k _ (ints_at l k x hx))
      have gk : (k : Int) < (l.length : Int) := by omega
      have J := Lib.hid (I.out k x hx wr)
      have FL := Lib.hid (flat_take hx)
      have LA := Lib.hid (show (P ++ flatI (l.take k)).length + (putI x).length ≤ 140737488355328 by
        have h1 := flatI_len (l.take k)
        have h2 := putI_len x
        have h3 := HP.out
        rw [List.length_take] at h1
        rw [List.length_append]
        omega)
      generalize putI x = q at J FL LA
      have hz := HB.out.size
      clear hcc hx
      go_wp2_with fail
      refine J.out.mono ?_
      rintro e w2 ⟨u2, rfl, o2, b2⟩
      have O2 := Lib.hid o2.lst
      have B2 := Lib.hid (HB.out.trans (b2.mono hz))
      have HO2 := Lib.hid (OwnB.below HO.out b2)
      clear o2 b2
      go_wp2_with (at_builtin; refine app_lstb _ rfl (.tmp 16) (.tmp 18) rfl w.heap.size _ _ q rfl HO2.out _ rfl O2.out B2.out.size LA.out ?_; intro v3 w3 own3 b3; have O3 : Hid (OwnB w3 w.heap.size v3 (P ++ flatI (l.take (k + 1)))) := (by show OwnB _ _ _ _; rw [FL.out, ← List.append_assoc]; exact own3); have B3 := Lib.hid (B2.out.trans b3); clear own3 b3)
      go_roundw
      case rel => exact ⟨k + 1, by go_num, by omega, O3, B3⟩
      case measure => simp [intOf]; omega
    · have d : decide (k < l.length) = false := by rw [decide_eq_false_iff_not]; exact hlt
      have O3 : Hid (OwnB wr w.heap.size u3 (putL l)) := by
        have := HO.out
        rw [List.take_of_length_le (by omega), ← R.out] at this
        exact this
      clear hlt HO
      go_wp2_with fail
      go_ret
      exact ⟨_, rfl, O3.out, HB.out⟩
set_option maxRecDepth 100000 in
set_option maxHeartbeats 1000000 in
theorem rpints_any (v : Value) (l : List Int) (hl : l.length ≤ 1048576) (hi : ∀ x ∈ l, I64 x) (w : World) (h : LstI w v l) : GivesB 23 #[v] w (putL l) := by
  have M := Lib.hid (rpuint_any l.length (by omega) w)
  have I := Lib.hid (fun (k : Nat) (x : Int) (hx : l[k]? = some x) W => rpint_any x (hi x (List.mem_iff_getElem?.2 ⟨k, hx⟩)) W)
  have hp := putU_len l.length
  have R := Lib.hid (show putL l = putU l.length ++ flatI l from rfl)
  generalize putU l.length = P at M hp R
  have HP := Lib.hid hp
  obtain ⟨A, cap, rfl, -, -, hcell⟩ := h
  have HX := Lib.hid hcell
  clear hp hcell hi
  go_enter Try.func23, Try.ntmps23
  go_wp2_with fail
  refine M.out.mono ?_
  rintro e w1 ⟨u1, rfl, o1, b1⟩
  have O1 := Lib.hid o1
  have B1 := Lib.hid b1
  clear o1 b1 M
  go_wp2_with fail
  go_loopw [3, 4] (fun u i wr => ∃ k : Nat, i = .int .i64 k ∧ k ≤ l.length ∧ Hid (OwnB wr w.heap.size u (P ++ flatI (l.take k))) ∧ Hid (Below w.heap.size w wr)) (fun _ i _ => l.length - (intOf i).toNat)
  case atStart => exact ⟨0, rfl, Nat.zero_le _, Lib.hid (by rw [List.take_zero]; show OwnB _ _ _ (P ++ []); rw [List.append_nil]; exact O1.out), B1⟩
  case round =>
    clear O1 B1
    obtain ⟨k, rfl, hk, HO, HB⟩ := hrel
    by_cases hlt : k < l.length
    · obtain ⟨x, hx⟩ := at_lt hlt
      obtain ⟨b, o, rfl, hb, hcc⟩ := HX.out (by omega)
      have m1 := (HB.out.cell (p := ⟨b, o + k, none⟩) hb).trans (hcc k _ (ints_at l k x hx))
      have gk : (k : Int) < (l.length : Int) := by omega
      have J := Lib.hid (I.out k x hx wr)
      have FL := Lib.hid (flat_take hx)
      have LA := Lib.hid (show (P ++ flatI (l.take k)).length + (putI x).length ≤ 140737488355328 by
        have h1 := flatI_len (l.take k)
        have h2 := putI_len x
        have h3 := HP.out
        rw [List.length_take] at h1
        rw [List.length_append]
        omega)
      generalize putI x = q at J FL LA
      have hz := HB.out.size
      clear hcc hx
      go_wp2_with fail
      refine J.out.mono ?_
      rintro e w2 ⟨u2, rfl, o2, b2⟩
      have O2 := Lib.hid o2.lst
      have B2 := Lib.hid (HB.out.trans (b2.mono hz))
      have HO2 := Lib.hid (OwnB.below HO.out b2)
      clear o2 b2
      go_wp2_with (at_builtin; refine app_lstb _ rfl (.tmp 15) (.tmp 20) rfl w.heap.size _ _ q rfl HO2.out _ rfl O2.out B2.out.size LA.out ?_; intro v3 w3 own3 b3; have O3 : Hid (OwnB w3 w.heap.size v3 (P ++ flatI (l.take (k + 1)))) := (by show OwnB _ _ _ _; rw [FL.out, ← List.append_assoc]; exact own3); have B3 := Lib.hid (B2.out.trans b3); clear own3 b3)
      go_roundw
      case rel => exact ⟨k + 1, by go_num, by omega, O3, B3⟩
      case measure => simp [intOf]; omega
    · have d : decide (k < l.length) = false := by rw [decide_eq_false_iff_not]; exact hlt
      have O3 : Hid (OwnB wr w.heap.size u3 (putL l)) := by
        have := HO.out
        rw [List.take_of_length_le (by omega), ← R.out] at this
        exact this
      clear hlt HO
      go_wp2_with fail
      go_ret
      exact ⟨_, rfl, O3.out, HB.out⟩
end Go.Proofs.Yteojfgpinmpocaa
