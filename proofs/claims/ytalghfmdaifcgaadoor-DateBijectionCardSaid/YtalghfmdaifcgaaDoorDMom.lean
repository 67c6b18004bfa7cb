/-
  ParseMoment of package date and of its reference: what each call answers; nothing that existed before the call has changed behind it. Condition: the table of the months' lengths holds what its initialiser lays, where a theorem names it.
-/
import Derived.Test.YtalghfmdaifcgaaDoorDParse
namespace Go.Proofs.YtalghfmdaifcgaaDoor
open Go.RowKit

theorem size_str (l : List UInt8) : (str l).size = l.length := by show l.toArray.size = _; simp
theorem idx_run (l : List UInt8) (i : Nat) (c : UInt8) (h : l[i]? = some c) (e : Int) (he : e = i) (W : World) : (Instr.index 9 (.string (str l)) (.int .i64 e)).run Tryd.prog W = .ok (.int .u8 c.toNat) W := by
  subst he
  have hi : i < l.length := (List.getElem?_eq_some_iff.1 h).1
  rw [run_at (str l) i (by rw [size_str]; exact hi) W]
  have : (str l)[i]'(by rw [size_str]; exact hi) = c := (List.getElem?_eq_some_iff.1 h).2
  rw [this]
theorem slh_run (l : List UInt8) (j : Nat) (hj : j ≤ l.length) (m : List UInt8) (hm : l.take j = m) (e : Int) (he : e = j) (W : World) : (Instr.slice 9 (.string (str l)) none (some (.int .i64 e)) none).run Tryd.prog W = .ok (.string (str m)) W := by
  subst he hm
  rw [run_slice_string_h W 9 (str l) Tryd.underlying9 .i64 j (by omega) (by rw [size_str]; omega)]
  congr 2
  rw [Lib.extract_eq]
  simp
theorem sll_run (l : List UInt8) (j : Nat) (hj : j ≤ l.length) (m : List UInt8) (hm : l.drop j = m) (e : Int) (he : e = j) (W : World) : (Instr.slice 9 (.string (str l)) (some (.int .i64 e)) none none).run Tryd.prog W = .ok (.string (str m)) W := by
  subst he hm
  rw [run_slice_string_l W 9 (str l) Tryd.underlying9 .i64 j (by omega) (by rw [size_str]; omega)]
  congr 2
  rw [Lib.extract_eq, size_str]
  simp
  rw [List.take_of_length_le (by simp)]

theorem dayR_range (l : List UInt8) : 0 ≤ (dayR l).1 ∧ (dayR l).1 ≤ 36524 := by
  by_cases h : (dayR l).2 = 0
  · obtain ⟨i, n, hi, hm, hr, -⟩ := date_back l h
    have := inMon_day hm hi
    rw [hr]
    simp only
    omega
  · unfold dayR at *
    split
    · rename_i hf
      rw [if_pos hf] at h
      split
      · rename_i hp
        rw [if_pos hp] at h
        exact absurd rfl h
      · simp
    · simp
theorem timeR_range (l : List UInt8) : 0 ≤ (timeR l).1 ∧ (timeR l).1 ≤ 172800 := by
  by_cases h : (timeR l).2 = 0
  · obtain ⟨h0, h1, -⟩ := time_back l h
    exact ⟨h0, h1⟩
  · unfold timeR at *
    split
    · rename_i hf
      rw [if_pos hf] at h
      split
      · rename_i hp
        rw [if_pos hp] at h
        exact absurd rfl h
      · simp
    · simp
theorem ret_pair {a b : Int × Int} (h : a = b) : Ending.returned (.tuple #[.int .i64 a.1, .int .i64 a.2]) = Ending.returned (.tuple #[.int .i64 b.1, .int .i64 b.2]) := by rw [h]

theorem dmom_core (l : List UInt8) (h19 : l.length = 19) (hT : l[10]? = some 84) (dx de tx te : Int) (d0 : 0 ≤ dx) (d1 : dx ≤ 36524) (t0 : 0 ≤ tx)
    (hP : ∀ w, Good w → Calls Tryd.prog 29 #[.string (str (l.take 10))] w fun e w' => e = .returned (.tuple #[.int .i64 dx, .int .i64 de]) ∧ Below w.heap.size w w')
    (hC : ∀ w, Calls Tryd.prog 54 #[.string (str (l.drop 11))] w fun e w' => e = .returned (.tuple #[.int .i64 tx, .int .i64 te]) ∧ Below w.heap.size w w')
    (w : World) (hg : Good w) :
    Calls Tryd.prog 37 #[.string (str l)] w fun e w' => e = .returned (.tuple #[.int .i64 (partsR (dx, de) (tx, te)).1, .int .i64 (partsR (dx, de) (tx, te)).2]) ∧ Below w.heap.size w w' := by
  have k10 := idx_run l 10 84 hT 10 rfl
  have sh := slh_run l 10 (by omega) (l.take 10) rfl 10 rfl
  have sl := sll_run l 11 (by omega) (l.drop 11) rfl 11 rfl
  have nT : (((84 : UInt8).toNat : Int) != 84) = false := rfl
  have n19 : ((l.length : Int) != 19) = false := by rw [h19]; rfl
  have HP := Lib.hid hP
  have HC := Lib.hid hC
  clear hP hC hT h19
  by_cases c1 : te = 3
  · have E := Lib.hid (show ((0, 3) : Int × Int) = partsR (dx, de) (tx, te) by unfold partsR; rw [if_pos c1])
    have b1 : (te == 3) = true := beq_yes c1
    clear c1
    go_enter Tryd.func37, Tryd.ntmps37
    go_wp2_with fail
    refine (HP.out _ hg).mono ?_
    rintro e w1 ⟨rfl, b1⟩
    go_wp2_with fail
    refine (rel (W := w) (HC.out _) (by assumption)).mono ?_
    rintro e w2 ⟨rfl, b2⟩
    go_wp2_with fail
    go_ret2
    exact ⟨ret_pair E.out, b2⟩
  by_cases c2 : de = 0
  · have n3 : (te == 3) = false := beq_no c1
    have nd : (de != 0) = false := by rw [c2]; rfl
    by_cases c3 : te = 0
    · have nt : (te != 0) = false := by rw [c3]; rfl
      by_cases c4 : 86400 ≤ tx
      · have E := Lib.hid (show ((0, 10) : Int × Int) = partsR (dx, de) (tx, te) by unfold partsR; rw [if_neg c1, if_neg (by simp only; omega), if_pos (Or.inr c4)])
        clear c1 c2 c3
        go_enter Tryd.func37, Tryd.ntmps37
        go_wp2_with fail
        refine (HP.out _ hg).mono ?_
        rintro e w1 ⟨rfl, b1⟩
        go_wp2_with fail
        refine (rel (W := w) (HC.out _) (by assumption)).mono ?_
        rintro e w2 ⟨rfl, b2⟩
        go_wp2_with fail
        go_ret2
        exact ⟨ret_pair E.out, b2⟩
      · have E := Lib.hid (show ((dx * 86400 + tx, 0) : Int × Int) = partsR (dx, de) (tx, te) by unfold partsR; rw [if_neg c1, if_neg (by simp only; omega), if_neg (by simp only; omega)])
        have t4 : decide (86400 ≤ tx) = false := by simp; omega
        have t5 : tx < 86400 := by omega
        clear c1 c2 c3 c4
        go_enter Tryd.func37, Tryd.ntmps37
        go_wp2_with fail
        refine (HP.out _ hg).mono ?_
        rintro e w1 ⟨rfl, b1⟩
        go_wp2_with fail
        refine (rel (W := w) (HC.out _) (by assumption)).mono ?_
        rintro e w2 ⟨rfl, b2⟩
        go_wp2_with fail
        go_ret2
        exact ⟨ret_pair E.out, b2⟩
    · have nt : (te != 0) = true := bne_true c3
      have E := Lib.hid (show ((0, 10) : Int × Int) = partsR (dx, de) (tx, te) by unfold partsR; rw [if_neg c1, if_neg (by simp only; omega), if_pos (Or.inl c3)])
      clear c1 c2 c3
      go_enter Tryd.func37, Tryd.ntmps37
      go_wp2_with fail
      refine (HP.out _ hg).mono ?_
      rintro e w1 ⟨rfl, b1⟩
      go_wp2_with fail
      refine (rel (W := w) (HC.out _) (by assumption)).mono ?_
      rintro e w2 ⟨rfl, b2⟩
      go_wp2_with fail
      go_ret2
      exact ⟨ret_pair E.out, b2⟩
  · have n3 : (te == 3) = false := beq_no c1
    have nd : (de != 0) = true := bne_true c2
    have E := Lib.hid (show ((0, de) : Int × Int) = partsR (dx, de) (tx, te) by unfold partsR; rw [if_neg c1, if_pos c2])
    clear c1 c2
    go_enter Tryd.func37, Tryd.ntmps37
    go_wp2_with fail
    refine (HP.out _ hg).mono ?_
    rintro e w1 ⟨rfl, b1⟩
    go_wp2_with fail
    refine (rel (W := w) (HC.out _) (by assumption)).mono ?_
    rintro e w2 ⟨rfl, b2⟩
    go_wp2_with fail
    go_ret2
    exact ⟨ret_pair E.out, b2⟩
theorem dmom_len (l : List UInt8) (h : l.length ≠ 19) (w : World) :
    Calls Tryd.prog 37 #[.string (str l)] w fun e w' => e = .returned (.tuple #[.int .i64 0, .int .i64 3]) ∧ w = w' := by
  have n19 : ((l.length : Int) != 19) = true := bne_true (by omega)
  clear h
  go_enter Tryd.func37, Tryd.ntmps37
  go_wp2_with fail
  go_ret2
  exact ⟨rfl, rfl⟩
theorem dmom_sep (l : List UInt8) (h : l.length = 19) (c : UInt8) (hc : l[10]? = some c) (hn : c ≠ 84) (w : World) :
    Calls Tryd.prog 37 #[.string (str l)] w fun e w' => e = .returned (.tuple #[.int .i64 0, .int .i64 3]) ∧ w = w' := by
  have n19 : ((l.length : Int) != 19) = false := by rw [h]; rfl
  have k10 := idx_run l 10 c hc 10 rfl
  have nT : ((c.toNat : Int) != 84) = true := bne_true (fun hh => hn (UInt8.toNat_inj.1 (by show c.toNat = 84; omega)))
  clear h hc hn
  go_enter Tryd.func37, Tryd.ntmps37
  go_wp2_with fail
  go_ret2
  exact ⟨rfl, rfl⟩
theorem dmom_any (l : List UInt8) (w : World) (hg : Good w) :
    Calls Tryd.prog 37 #[.string (str l)] w fun e w' => e = .returned (.tuple #[.int .i64 (momR l).1, .int .i64 (momR l).2]) ∧ Below w.heap.size w w' := by
  by_cases h : l.length = 19
  · by_cases hT : l[10]? = some 84
    · rw [← parts_mom l h hT]
      have hd := dayR_range (l.take 10)
      have ht := timeR_range (l.drop 11)
      exact dmom_core l h hT (dayR (l.take 10)).1 (dayR (l.take 10)).2 (timeR (l.drop 11)).1 (timeR (l.drop 11)).2 hd.1 hd.2 ht.1 (fun w hg => dparse_any (str (l.take 10)) w hg) (fun w => parse_any (str (l.drop 11)) w) w hg
    · rw [mom_else l (fun hh => hT hh.2)]
      obtain ⟨x, -, hx⟩ := nineteen l h
      exact still (dmom_sep l h x hx (fun hc => hT (by rw [hx, hc])) w)
  · rw [mom_else l (fun hh => h hh.1)]
    exact still (dmom_len l h w)

theorem mom_digit (l : List UInt8) (hf : fits momP l = true) (k : Nat) (c : UInt8) (hc : l[k]? = some c) (hk : k = 11 ∨ k = 12 ∨ k = 14 ∨ k = 15 ∨ k = 17 ∨ k = 18) : dig c = true := by
  have h := ((fits_iff _ _).1 hf).2 k 48 c (by rcases hk with rfl | rfl | rfl | rfl | rfl | rfl <;> rfl) hc
  rwa [okP_digit] at h
theorem mom_digs (s : ByteArray) (hf : fits momP s.data.toList = true) (a : Nat) (ha : a = 11 ∨ a = 14 ∨ a = 17) : digs ((s.data.toList.drop a).take 2) = true := by
  unfold digs
  rw [List.all_eq_true]
  intro x hx
  obtain ⟨i, hi⟩ := List.mem_iff_getElem?.1 hx
  have hi2 : i < 2 := by
    have := (List.getElem?_eq_some_iff.1 hi).1
    simp at this
    omega
  rw [List.getElem?_take_of_lt hi2, List.getElem?_drop] at hi
  exact mom_digit _ hf (a + i) x hi (by omega)
theorem pair_lt (s : ByteArray) (hf : fits momP s.data.toList = true) (a : Nat) (ha : a = 11 ∨ a = 14 ∨ a = 17) : pairN s.data.toList a < 100 := by
  have h := valN_lt _ (mom_digs s hf a ha)
  have h2 : ((s.data.toList.drop a).take 2).length ≤ 2 := List.length_take_le _ _
  exact Nat.lt_of_lt_of_le h (Nat.pow_le_pow_right (by decide) h2)
theorem rmval_form (s : ByteArray) (hf : fits momP s.data.toList = true) (a b : Nat) (h : (a = 11 ∧ b = 13) ∨ (a = 14 ∧ b = 16) ∨ (a = 17 ∧ (b = 19 ∨ b = s.size))) (w : World) :
    Calls Tryd.prog 49 #[.string (s.extract a b)] w fun e w' => e = .returned (.int .i64 (pairN s.data.toList a)) ∧ w = w' := by
  have h19 : s.size = 19 := ((fits_iff _ _).1 hf).1
  exact rdval_at s a b 2 (by omega) (by decide) (mom_digs s hf a (by omega)) w

/-- The reference's reading of a text of the right form whose day exists. -/
theorem rmom_core (s : ByteArray) (hf : fits momP s.data.toList = true) (dx : Int) (d0 : 0 ≤ dx) (d1 : dx ≤ 36524)
    (hP : ∀ w, Calls Tryd.prog 30 #[.string (s.extract 0 10)] w fun e w' => e = .returned (.tuple #[.int .i64 dx, .int .i64 0]) ∧ Below w.heap.size w w')
    (x : Int × Int) (hx : (if pairN s.data.toList 11 ≤ 23 ∧ pairN s.data.toList 14 ≤ 59 ∧ pairN s.data.toList 17 ≤ 59 then (dx * 86400 + (pairN s.data.toList 11 : Int) * 3600 + (pairN s.data.toList 14 : Int) * 60 + (pairN s.data.toList 17 : Int), 0) else (0, 10)) = x) (w : World) :
    Calls Tryd.prog 38 #[.string s] w fun e w' => e = .returned (.tuple #[.int .i64 x.1, .int .i64 x.2]) ∧ Below w.heap.size w w' := by
  have h19 : s.size = 19 := ((fits_iff _ _).1 hf).1
  have HD := Lib.hid (fun w => shaped_any s ⟨#[48, 48, 48, 48, 45, 48, 48, 45, 48, 48, 84, 48, 48, 58, 48, 48, 58, 48, 48]⟩ (by decide) w)
  rw [show fits (⟨#[48, 48, 48, 48, 45, 48, 48, 45, 48, 48, 84, 48, 48, 58, 48, 48, 58, 48, 48]⟩ : ByteArray).data.toList s.data.toList = true from hf] at HD
  have HF := Lib.hid hf
  have HP := Lib.hid hP
  have l1 := pair_lt s hf 11 (by omega)
  have l2 := pair_lt s hf 14 (by omega)
  have l3 := pair_lt s hf 17 (by omega)
  have V := Lib.hid (fun a b h w => rmval_form s hf a b h w)
  clear hf hP
  generalize pairN s.data.toList = p at hx l1 l2 l3 V
  have i10 : (10 : Int) ≤ (s.size : Int) := by omega
  have i13 : (13 : Int) ≤ (s.size : Int) := by omega
  have i16 : (16 : Int) ≤ (s.size : Int) := by omega
  have i17 : (17 : Int) ≤ (s.size : Int) := by omega
  clear h19
  by_cases c1 : p 11 ≤ 23
  · have t1 : decide ((23 : Int) < (p 11 : Int)) = false := by simp; omega
    by_cases c2 : p 14 ≤ 59
    · have t2 : decide ((59 : Int) < (p 14 : Int)) = false := by simp; omega
      by_cases c3 : p 17 ≤ 59
      · have t3 : decide ((59 : Int) < (p 17 : Int)) = false := by simp; omega
        rw [if_pos ⟨c1, c2, c3⟩] at hx
        have HX := Lib.hid hx
        clear hx
        go_enter Tryd.func38, Tryd.ntmps38
        go_wp2_with fail
        refine (HD.out _).mono ?_
        rintro e w1 ⟨rfl, b1⟩
        go_wp2_with fail
        refine (rel (W := w) (HP.out _) (by assumption)).mono ?_
        rintro e w2 ⟨rfl, b2⟩
        clear b1
        go_wp2_with fail
        go_region_held3 (fun _ => True) (exact trivial) (first | (go_at_call 49; refine (rel (W := w) (still (V.out _ _ (by omega) _)) (by first | assumption | (apply Below.drew; assumption))).mono ?_; rintro e wa ⟨rfl, ba⟩))
        go_wp2_with fail
        go_ret2
        exact ⟨ret_pair HX.out, by assumption⟩
      · have t3 : (59 : Int) < (p 17 : Int) := by omega
        rw [if_neg (fun h => c3 h.2.2)] at hx
        have HX := Lib.hid hx
        clear hx
        go_enter Tryd.func38, Tryd.ntmps38
        go_wp2_with fail
        refine (HD.out _).mono ?_
        rintro e w1 ⟨rfl, b1⟩
        go_wp2_with fail
        refine (rel (W := w) (HP.out _) (by assumption)).mono ?_
        rintro e w2 ⟨rfl, b2⟩
        clear b1
        go_wp2_with fail
        go_region_held3 (fun _ => True) (exact trivial) (first | (go_at_call 49; refine (rel (W := w) (still (V.out _ _ (by omega) _)) (by first | assumption | (apply Below.drew; assumption))).mono ?_; rintro e wa ⟨rfl, ba⟩))
        go_wp2_with fail
        go_ret2
        exact ⟨ret_pair HX.out, by assumption⟩
    · have t2 : (59 : Int) < (p 14 : Int) := by omega
      rw [if_neg (fun h => c2 h.2.1)] at hx
      have HX := Lib.hid hx
      clear hx
      go_enter Tryd.func38, Tryd.ntmps38
      go_wp2_with fail
      refine (HD.out _).mono ?_
      rintro e w1 ⟨rfl, b1⟩
      go_wp2_with fail
      refine (rel (W := w) (HP.out _) (by assumption)).mono ?_
      rintro e w2 ⟨rfl, b2⟩
      clear b1
      go_wp2_with fail
      go_region_held3 (fun _ => True) (exact trivial) (first | (go_at_call 49; refine (rel (W := w) (still (V.out _ _ (by omega) _)) (by first | assumption | (apply Below.drew; assumption))).mono ?_; rintro e wa ⟨rfl, ba⟩))
      go_wp2_with fail
      go_ret2
      exact ⟨ret_pair HX.out, by assumption⟩
  · have t1 : (23 : Int) < (p 11 : Int) := by omega
    rw [if_neg (fun h => c1 h.1)] at hx
    have HX := Lib.hid hx
    clear hx
    go_enter Tryd.func38, Tryd.ntmps38
    go_wp2_with fail
    refine (HD.out _).mono ?_
    rintro e w1 ⟨rfl, b1⟩
    go_wp2_with fail
    refine (rel (W := w) (HP.out _) (by assumption)).mono ?_
    rintro e w2 ⟨rfl, b2⟩
    clear b1
    go_wp2_with fail
    go_region_held3 (fun _ => True) (exact trivial) (first | (go_at_call 49; refine (rel (W := w) (still (V.out _ _ (by omega) _)) (by first | assumption | (apply Below.drew; assumption))).mono ?_; rintro e wa ⟨rfl, ba⟩))
    go_wp2_with fail
    go_ret2
    exact ⟨ret_pair HX.out, by assumption⟩
theorem rmom_date (s : ByteArray) (hf : fits momP s.data.toList = true) (dx de : Int) (hd : de ≠ 0)
    (hP : ∀ w, Calls Tryd.prog 30 #[.string (s.extract 0 10)] w fun e w' => e = .returned (.tuple #[.int .i64 dx, .int .i64 de]) ∧ Below w.heap.size w w') (w : World) :
    Calls Tryd.prog 38 #[.string s] w fun e w' => e = .returned (.tuple #[.int .i64 0, .int .i64 de]) ∧ Below w.heap.size w w' := by
  have h19 : s.size = 19 := ((fits_iff _ _).1 hf).1
  have HD := Lib.hid (fun w => shaped_any s ⟨#[48, 48, 48, 48, 45, 48, 48, 45, 48, 48, 84, 48, 48, 58, 48, 48, 58, 48, 48]⟩ (by decide) w)
  rw [show fits (⟨#[48, 48, 48, 48, 45, 48, 48, 45, 48, 48, 84, 48, 48, 58, 48, 48, 58, 48, 48]⟩ : ByteArray).data.toList s.data.toList = true from hf] at HD
  have HP := Lib.hid hP
  have nd : (de != 0) = true := bne_true hd
  have i10 : (10 : Int) ≤ (s.size : Int) := by omega
  clear hf hP hd h19
  go_enter Tryd.func38, Tryd.ntmps38
  go_wp2_with fail
  refine (HD.out _).mono ?_
  rintro e w1 ⟨rfl, b1⟩
  go_wp2_with fail
  refine (rel (W := w) (HP.out _) (by assumption)).mono ?_
  rintro e w2 ⟨rfl, b2⟩
  go_wp2_with fail
  go_ret2
  exact ⟨rfl, b2⟩
theorem rmom_syntax (s : ByteArray) (hf : fits momP s.data.toList = false) (w : World) :
    Calls Tryd.prog 38 #[.string s] w fun e w' => e = .returned (.tuple #[.int .i64 0, .int .i64 3]) ∧ Below w.heap.size w w' := by
  have HD := Lib.hid (fun w => shaped_any s ⟨#[48, 48, 48, 48, 45, 48, 48, 45, 48, 48, 84, 48, 48, 58, 48, 48, 58, 48, 48]⟩ (by decide) w)
  rw [show fits (⟨#[48, 48, 48, 48, 45, 48, 48, 45, 48, 48, 84, 48, 48, 58, 48, 48, 58, 48, 48]⟩ : ByteArray).data.toList s.data.toList = false from hf] at HD
  clear hf
  go_enter Tryd.func38, Tryd.ntmps38
  go_wp2_with fail
  refine (HD.out _).mono ?_
  rintro e w1 ⟨rfl, b1⟩
  go_wp2_with fail
  go_ret2
  exact ⟨rfl, b1⟩
theorem rmom_any (s : ByteArray) (w : World) :
    Calls Tryd.prog 38 #[.string s] w fun e w' => e = .returned (.tuple #[.int .i64 (momR s.data.toList).1, .int .i64 (momR s.data.toList).2]) ∧ Below w.heap.size w w' := by
  cases hf : fits momP s.data.toList with
  | false =>
    have e : momR s.data.toList = (0, 3) := by unfold momR; rw [hf]; rfl
    rw [e]
    exact rmom_syntax s hf w
  | true =>
    have he : (s.extract 0 10).data.toList = s.data.toList.take 10 := by rw [Lib.extract_data]; simp
    have hd := dayR_range (s.data.toList.take 10)
    have P := fun w => rdparse_any (s.extract 0 10) w
    rw [he] at P
    by_cases h0 : (dayR (s.data.toList.take 10)).2 = 0
    · rw [h0] at P
      exact rmom_core s hf _ hd.1 hd.2 P (momR s.data.toList) (by unfold momR; rw [if_pos hf, if_pos h0]) w
    · have e : momR s.data.toList = (0, (dayR (s.data.toList.take 10)).2) := by unfold momR; rw [if_pos hf, if_neg h0]
      rw [e]
      exact rmom_date s hf _ _ h0 P w
end Go.Proofs.YtalghfmdaifcgaaDoor
