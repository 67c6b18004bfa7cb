/-
  The functions of package field's reference that read forms: what each call answers; nothing that existed before the call has changed behind it. Condition: a string of at most 2^40 bytes.
-/
import Derived.Test.YtpdekihfgglmkaaDoorFUnq
namespace Go.Proofs.YtpdekihfgglmkaaDoor
open Go.RowKit

/-! ### digit -/
theorem unhex_le (c : UInt8) : unhex c ≤ 16 := by
  unfold unhex
  split
  · omega
  · split <;> omega
theorem digit_any (b : UInt8) (w : World) : Calls Tryd.prog 44 #[.int .u8 ((b.toNat : Nat) : Int)] w fun e w' => e = .returned (.int .u8 ((unhex b : Nat) : Int)) ∧ w = w' := by
  go_enter Tryd.func44, Tryd.ntmps44
  go_wp2_with fail
  go_loop [3] (fun n => ∃ k : Nat, n = .int .u8 k ∧ k ≤ 16 ∧ Hid (∀ j, j < k → hexD j ≠ b)) (fun n => 16 - (intOf n).toNat)
  case atStart => exact ⟨0, rfl, by omega, Lib.hid (fun j hj => absurd hj (Nat.not_lt_zero _))⟩
  case round =>
    obtain ⟨k, rfl, hk, hno⟩ := hrel
    by_cases hlt : k < 16
    · have H := Lib.hid (fun w => hex_any k hlt w)
      by_cases he : hexD k = b
      · have R := Lib.hid (show unhex b = k by rw [← he]; exact unhex_hexD k hlt)
        have q1 : (((hexD k).toNat : Int) == (b.toNat : Int)) = true := by rw [he]; simp
        have q2 : ((hexD k).toNat == b.toNat) = true := by rw [he]; simp
        clear he hno
        go_wp2_with fail
        refine (H.out _).mono ?_
        rintro e w' ⟨rfl, rfl⟩
        go_wp2_with fail
        go_ret
        exact ⟨ret_int (by rw [R.out]), rfl⟩
      · have hn2 : Hid (∀ j, j < k + 1 → hexD j ≠ b) := by
          intro j hj
          by_cases h : j < k
          · exact hno.out j h
          · have : j = k := by omega
            rw [this]; exact he
        have hne : (hexD k).toNat ≠ b.toNat := fun h => he (UInt8.toNat_inj.1 h)
        have q1 : (((hexD k).toNat : Int) == (b.toNat : Int)) = false := beq_false (by omega)
        have q2 : ((hexD k).toNat == b.toNat) = false := by rw [beq_eq_false_iff_ne]; exact hne
        clear he hno hne
        go_wp2_with fail
        refine (H.out _).mono ?_
        rintro e w' ⟨rfl, rfl⟩
        go_wp2_with fail
        go_round
        case rel => exact ⟨k + 1, by go_num, by omega, hn2⟩
        case measure => simp [intOf]; omega
    · have R := Lib.hid (show unhex b = 16 by
        have h1 := unhex_le b
        rcases Nat.lt_or_ge (unhex b) 16 with h | h
        · exact absurd (unhex_lt h) (hno.out _ (by omega))
        · omega)
      have d : decide ((k : Int) < 16) = false := by simp; omega
      clear hno hlt
      go_wp2_with fail
      go_ret
      exact ⟨ret_int (by rw [R.out]; rfl), rfl⟩

/-! ### one -/
theorem oneL_other (c : UInt8) (r : List UInt8) (h : c ≠ 92) : oneL (c :: r) = (c, 1) := by
  unfold oneL
  simp only []
  rw [if_pos h]
theorem oneL_end : oneL [92] = (0, 0) := rfl
theorem oneL_sign (d : UInt8) (q : List UInt8) (h : d = 34 ∨ d = 92) : oneL (92 :: d :: q) = (d, 2) := by
  unfold oneL
  simp only [ne_eq, not_true_eq_false, if_false]
  rw [if_pos h]
theorem oneL_short (d : UInt8) (q : List UInt8) (h : ¬ (d = 34 ∨ d = 92)) (hq : q.length < 2) : oneL (92 :: d :: q) = (0, 0) := by
  unfold oneL
  simp only [ne_eq, not_true_eq_false, if_false]
  rw [if_neg h]
  match q, hq with
  | [], _ => rfl
  | [_], _ => rfl
theorem oneL_hex (d x y : UInt8) (z : List UInt8) (h : ¬ (d = 34 ∨ d = 92)) : oneL (92 :: d :: x :: y :: z) = if d = 120 ∧ unhex x < 16 ∧ unhex y < 16 then (byteOf (unhex x) (unhex y), 4) else (0, 0) := by
  unfold oneL
  simp only [ne_eq, not_true_eq_false, if_false]
  rw [if_neg h]
theorem ret_ui {a b c d : Int} (h : a = b) (k : c = d) : Ending.returned (.tuple #[.int .u8 a, .int .i64 c]) = Ending.returned (.tuple #[.int .u8 b, .int .i64 d]) := by rw [h, k]
theorem byte_is (c : UInt8) (n : Nat) (hn : n < 256) : (c = UInt8.ofNat n) = (c.toNat = n) := by
  refine propext ⟨fun h => ?_, fun h => UInt8.toNat_inj.1 ?_⟩
  · rw [h, UInt8.toNat_ofNat']; omega
  · rw [h, UInt8.toNat_ofNat']; omega
set_option maxHeartbeats 2000000 in
theorem one_any (s : ByteArray) (hs : s.size ≤ 1099511627776) (h1 : 1 ≤ s.size) (w : World) : Calls Tryd.prog 34 #[.string s] w fun e w' => e = .returned (.tuple #[.int .u8 (((oneL s.data.toList).1.toNat : Nat) : Int), .int .i64 (((oneL s.data.toList).2 : Nat) : Int)]) ∧ Below w.heap.size w w' := by
  have hz := sz_list s
  obtain ⟨l, hl⟩ : ∃ l, s.data.toList = l := ⟨_, rfl⟩
  rw [hl] at hz ⊢
  match l, hz, hl with
  | [], hz, _ => simp at hz; omega
  | c :: r, hz, hl =>
    have hcb := c.toNat_lt
    have k0 := fun W => at_run s 0 c (by rw [hl]; rfl) 0 rfl W
    by_cases hc : c = 92
    · subst hc
      match r, hz, hl with
      | [], hz, _ =>
        have g2 : decide (2 ≤ (s.size : Int)) = false := by simp at hz ⊢; omega
        have g4 : decide (4 ≤ (s.size : Int)) = false := by simp at hz ⊢; omega
        rw [oneL_end]
        clear hz hl
        go_enter Tryd.func34, Tryd.ntmps34
        go_wp2_with fail
        go_ret2
        exact ⟨ret_ui rfl rfl, Below.refl _ _⟩
      | d :: q, hz, hl =>
        have hdb := d.toNat_lt
        have k1 := fun W => at_run s 1 d (by rw [hl]; rfl) 1 rfl W
        have g2 : 2 ≤ (s.size : Int) := by simp at hz; omega
        by_cases hd : d = 34 ∨ d = 92
        · rw [oneL_sign d q hd]
          clear hz hl
          rcases hd with rfl | rfl
          · go_enter Tryd.func34, Tryd.ntmps34
            go_wp2_with fail
            go_ret2
            exact ⟨ret_ui rfl rfl, Below.refl _ _⟩
          · go_enter Tryd.func34, Tryd.ntmps34
            go_wp2_with fail
            go_ret2
            exact ⟨ret_ui rfl rfl, Below.refl _ _⟩
        · have n34 : d.toNat ≠ 34 := fun e => hd (Or.inl (UInt8.toNat_inj.1 e))
          have n92 : d.toNat ≠ 92 := fun e => hd (Or.inr (UInt8.toNat_inj.1 e))
          have q34 : ((d.toNat : Int) == 34) = false := beq_false (by omega)
          have q92 : ((d.toNat : Int) == 92) = false := beq_false (by omega)
          by_cases hq : q.length < 2
          · have g4 : decide (4 ≤ (s.size : Int)) = false := by simp at hz ⊢; omega
            rw [oneL_short d q hd hq]
            clear hz hl hd hq n34 n92
            go_enter Tryd.func34, Tryd.ntmps34
            go_wp2_with fail
            go_ret2
            exact ⟨ret_ui rfl rfl, Below.refl _ _⟩
          · match q, hz, hl with
            | [], _, _ => exact absurd (show [].length < 2 by simp) hq
            | [_], _, _ => exact absurd (show [_].length < 2 by simp) hq
            | x :: y :: z, hz, hl =>
              have k2 := fun W => at_run s 2 x (by rw [hl]; rfl) 2 rfl W
              have k3 := fun W => at_run s 3 y (by rw [hl]; rfl) 3 rfl W
              have g4 : 4 ≤ (s.size : Int) := by simp at hz; omega
              have D1 := Lib.hid (fun w => digit_any x w)
              have D2 := Lib.hid (fun w => digit_any y w)
              have x1 := unhex_le x
              have y1 := unhex_le y
              have g3 : 3 ≤ (s.size : Int) := by omega
              rw [oneL_hex d x y z hd]
              by_cases hx : d = 120
              · subst hx
                by_cases hxu : unhex x < 16
                · by_cases hyu : unhex y < 16
                  · rw [if_pos ⟨rfl, hxu, hyu⟩]
                    have hb : Hid (((byteOf (unhex x) (unhex y)).toNat : Int) = 16 * (unhex x : Int) + (unhex y : Int)) := by
                      unfold byteOf
                      rw [UInt8.toNat_ofNat']
                      show _ = _
                      omega
                    have dx : (unhex x : Int) < 16 := by omega
                    have dy : (unhex y : Int) < 16 := by omega
                    have hx0 : 0 ≤ (unhex x : Int) := by omega
                    have hy0 : 0 ≤ (unhex y : Int) := by omega
                    generalize byteOf (unhex x) (unhex y) = b at hb ⊢
                    generalize (unhex x : Int) = X at *
                    generalize (unhex y : Int) = Y at *
                    clear hz hl hd n34 n92 hxu hyu x1 y1
                    go_enter Tryd.func34, Tryd.ntmps34
                    go_wp2_with fail
                    refine (D1.out _).mono ?_
                    rintro e w' ⟨rfl, rfl⟩
                    go_wp2_with fail
                    refine (D2.out _).mono ?_
                    rintro e w' ⟨rfl, rfl⟩
                    go_wp2_with fail
                    go_quiet (first | (go_at_call 44; with_reducible exact quiet_of D1.out _ _) | (go_at_call 44; with_reducible exact quiet_of D2.out _ _))
                    have b1 := below_drewN (Below.refl w.heap.size w) nq
                    generalize w.drewN nq = w1 at b1 ⊢
                    go_wp2_with fail
                    go_ret2
                    refine ⟨ret_ui ?_ rfl, b1⟩
                    have := hb.out
                    omega
                  · rw [if_neg (fun h => hyu h.2.2)]
                    have dx : (unhex x : Int) < 16 := by omega
                    have dy : decide ((unhex y : Int) < 16) = false := by simp; omega
                    clear hz hl hd n34 n92 hyu x1 y1
                    go_enter Tryd.func34, Tryd.ntmps34
                    go_wp2_with fail
                    refine (D1.out _).mono ?_
                    rintro e w' ⟨rfl, rfl⟩
                    go_wp2_with fail
                    refine (D2.out _).mono ?_
                    rintro e w' ⟨rfl, rfl⟩
                    go_wp2_with fail
                    go_ret2
                    exact ⟨ret_ui rfl rfl, Below.refl _ _⟩
                · rw [if_neg (fun h => hxu h.2.1)]
                  have dx : decide ((unhex x : Int) < 16) = false := by simp; omega
                  clear hz hl hd n34 n92 hxu x1 y1
                  go_enter Tryd.func34, Tryd.ntmps34
                  go_wp2_with fail
                  refine (D1.out _).mono ?_
                  rintro e w' ⟨rfl, rfl⟩
                  go_wp2_with fail
                  go_ret2
                  exact ⟨ret_ui rfl rfl, Below.refl _ _⟩
              · rw [if_neg (fun h => hx h.1)]
                have n120 : d.toNat ≠ 120 := fun e => hx (UInt8.toNat_inj.1 e)
                have q120 : ((d.toNat : Int) == 120) = false := beq_false (by omega)
                clear hz hl hd n34 n92 hx n120 x1 y1
                go_enter Tryd.func34, Tryd.ntmps34
                go_wp2_with fail
                go_ret2
                exact ⟨ret_ui rfl rfl, Below.refl _ _⟩
    · rw [oneL_other c r hc]
      have nc : c.toNat ≠ 92 := fun e => hc (UInt8.toNat_inj.1 e)
      have q92 : ((c.toNat : Int) != 92) = true := bne_true (by omega)
      clear hz hl hc nc
      go_enter Tryd.func34, Tryd.ntmps34
      go_wp2_with fail
      go_ret2
      exact ⟨ret_ui rfl rfl, Below.refl _ _⟩

/-! ### Unquote -/
theorem OwnB.step {w0 w w1 : World} {v : Value} {l : List UInt8} (hb0 : Below w0.heap.size w0 w) (_h : OwnB w w0.heap.size v l) (o : Obj) (hb : Below w0.heap.size (w.alloc o) w1) : Below w0.heap.size w0 w1 := (hb0.alloc hb0.size o).trans hb
theorem inner_at (l : List UInt8) (n k j : Nat) : (((l.drop k).take (n - 1 - k)).drop j) = (l.drop (k + j)).take (n - 1 - (k + j)) := by
  rw [List.drop_take, List.drop_drop, show n - 1 - k - j = n - 1 - (k + j) by omega]
set_option maxHeartbeats 2000000 in
theorem runq_any (s : ByteArray) (hs : s.size ≤ 1099511627776) (w : World) : Calls Tryd.prog 16 #[.string s] w fun e w' => e = .returned (.tuple #[.string (str (unqR s.data.toList).1), .int .i64 ((unqR s.data.toList).2)]) ∧ Below w.heap.size w w' := by
  have hz := sz_list s
  have P := Lib.hid (fun w => plain_any s hs w)
  cases hp : plainB s.data.toList with
  | true =>
    rw [hp] at P
    have R := Lib.hid (show unqR s.data.toList = (s.data.toList, 0) by unfold unqR; rw [unq_plain _ hp])
    clear hp hz
    go_enter Tryd.func16, Tryd.ntmps16
    go_wp2_with fail
    refine (P.out _).mono ?_
    rintro e w1 ⟨rfl, b1⟩
    go_wp2_with fail
    go_ret2
    exact ⟨ret_unq (by rw [R.out, str_list]) (by rw [R.out]), b1⟩
  | false =>
    rw [hp] at P
    by_cases hg : 2 ≤ s.size ∧ s.data.toList[0]? = some 34 ∧ s.data.toList[s.size - 1]? = some 34
    · have hU := unq_read s.data.toList hp (by rw [hz]; exact hg)
      rw [hz] at hU
      have k0 := fun W => at_run s 0 34 hg.2.1 0 rfl W
      have k1 := fun W => at_run s (s.size - 1) 34 hg.2.2 ((s.size : Int) - 1) (by have := hg.1; omega) W
      have h2 := hg.1
      have g2 : decide ((s.size : Int) < 2) = false := by simp; omega
      have g3 : 1 ≤ (s.size : Int) := by omega
      have HU := Lib.hid hU
      have HP := Lib.hid hp
      clear hg hU hp
      go_enter Tryd.func16, Tryd.ntmps16
      go_wp2_with fail
      refine (P.out _).mono ?_
      rintro e w1 ⟨rfl, b1⟩
      go_wp2_with fail
      clear k0 k1
      go_loopw [5, 6] (fun v i wr => ∃ (k : Nat) (out : List UInt8), i = .int .i64 k ∧ 1 ≤ k ∧ k ≤ s.size - 1 ∧ OwnB wr w.heap.size v out ∧ out.length ≤ k ∧ Hid ((readA ((s.data.toList.drop k).take (s.size - 1 - k))).map (out ++ ·) = readA ((s.data.toList.drop 1).take (s.size - 2))) ∧ Below w.heap.size w wr) (fun _ i _ => s.size - (intOf i).toNat)
      case atStart => exact ⟨1, [], rfl, by omega, by omega, OwnB.nil _ _, by simp, Lib.hid (by simp [show s.size - 1 - 1 = s.size - 2 by omega]), b1⟩
      case round =>
        clear b1
        obtain ⟨k, out, rfl, hk1, hk2, hown, hol, hrd, hb⟩ := hrel
        have hbs := hb.size
        by_cases hlt : k < s.size - 1
        · obtain ⟨t, ht, htz, -⟩ := as_str ((s.data.toList.drop k).take (s.size - 1 - k))
          have htz' : t.size = s.size - 1 - k := by rw [htz, List.length_take, List.length_drop, hz]; omega
          have k2 := fun W => sl_mid s t k (s.size - 1) (by omega) (by omega) ht.symm k ((s.size : Int) - 1) rfl (by omega) W
          have O := Lib.hid (fun w => one_any t (by omega) (by omega) w)
          have hle := oneL_le t.data.toList
          rw [sz_list] at hle
          have hne : t.data.toList ≠ [] := by intro e; have := sz_list t; rw [e] at this; simp at this; omega
          have hit := hrd.out
          rw [← ht] at hit
          have HO := Lib.hid hown
          have HB := Lib.hid hb
          have g5 : (k : Int) < (s.size : Int) - 1 := by omega
          by_cases h0 : (oneL t.data.toList).2 = 0
          · rw [readA_bad _ hne h0] at hit
            have R := Lib.hid (show unqR s.data.toList = ([], 3) by
              unfold unqR
              rw [HU.out, ← hit]
              rfl)
            have q0 : ((((oneL t.data.toList).2 : Nat) : Int) == 0) = true := by rw [h0]; rfl
            generalize (oneL t.data.toList).2 = x at *
            generalize (oneL t.data.toList).1 = b at *
            clear hit hne hle h0 ht htz htz' hown hb hrd hlt
            go_wp2_with (go_at_call 34; refine (O.out _).mono ?_; rintro e w2 ⟨rfl, b2⟩)
            go_ret2
            exact ⟨ret_unq (by rw [R.out]) (by rw [R.out]), HB.out.trans (b2.mono hbs)⟩
          · rw [readA_step _ hne h0] at hit
            have q0 : ((((oneL t.data.toList).2 : Nat) : Int) == 0) = false := beq_false (by omega)
            have hd : ∀ j, t.data.toList.drop j = (s.data.toList.drop (k + j)).take (s.size - 1 - (k + j)) := fun j => by rw [ht]; exact inner_at _ _ _ _
            rw [hd] at hit
            generalize (oneL t.data.toList).2 = x at *
            generalize (oneL t.data.toList).1 = b at *
            have HIT := Lib.hid (show (readA ((s.data.toList.drop (k + x)).take (s.size - 1 - (k + x)))).map ((out ++ [b]) ++ ·) = readA ((s.data.toList.drop 1).take (s.size - 2)) by
              rw [← hit, Option.map_map]
              congr 1
              funext z
              simp)
            have hx1 : 1 ≤ x := by omega
            clear hit hne h0 ht htz hd hown hb hrd hlt
            go_wp2_with (first | (go_at_call 34; refine (O.out _).mono ?_; rintro e w2 ⟨rfl, b2⟩; obtain ⟨o2, B2⟩ := own_put HB.out HO.out b2; have O2 := Lib.hid o2; have BB2 := Lib.hid B2; clear b2 o2 B2) | (at_builtin; refine app_bytes _ rfl _ _ rfl w.heap.size _ _ [b] rfl (OwnB.alloc O2.out _) w2.heap.size _ (heap_alloc_new _ _) rfl rfl (by have := BB2.out.size; simp; omega) (by simp; omega) ?_; intro v4 w4 own4 b4))
            go_roundw
            case rel => exact ⟨k + x, out ++ [b], by go_num, by omega, by omega, own4, by simp; omega, HIT, (BB2.out.alloc BB2.out.size _).trans b4⟩
            case measure => simp [intOf]; omega
        · have hk : k = s.size - 1 := by omega
          have hit := hrd.out
          rw [show s.size - 1 - k = 0 by omega, List.take_zero, readA_nil] at hit
          simp only [Option.map_some, List.append_nil] at hit
          obtain ⟨t, ht, htz, hst⟩ := as_str out
          obtain ⟨q, hq⟩ : ∃ q, str (quoteL t.data.toList) = q := ⟨_, rfl⟩
          have Q := Lib.hid (fun w => rquote_any t (by omega) w)
          rw [hq] at Q
          have cv := own_conv hown
          rw [hst] at cv
          have HO := Lib.hid hown
          have HB := Lib.hid hb
          have g5 : decide ((k : Int) < (s.size : Int) - 1) = false := by simp; omega
          by_cases hqs : q = s
          · have hqd := congrArg (fun x : ByteArray => x.data.toList) (hq.trans hqs)
            have R := Lib.hid (show unqR s.data.toList = (t.data.toList, 0) by
              unfold unqR
              rw [HU.out, ← hit, ← ht]
              show (match (if quoteL t.data.toList = s.data.toList then some t.data.toList else none) with | some t => (t, (0 : Int)) | none => ([], 3)) = _
              rw [if_pos hqd])
            have ne := bytes_eq hqs
            clear hit ht htz hown hb hrd hlt hk hq hqs hqd
            go_wp2_with (go_at_call 14; refine (Q.out _).mono ?_; rintro e w2 ⟨rfl, b2⟩; obtain ⟨o2, B2⟩ := own_put HB.out HO.out b2; have cv2 := own_conv o2; rw [hst] at cv2; have BB2 := Lib.hid B2; clear b2 o2 B2)
            go_ret2
            exact ⟨ret_unq (by rw [R.out, str_list]) (by rw [R.out]), BB2.out⟩
          · have R := Lib.hid (show unqR s.data.toList = ([], 3) by
              unfold unqR
              rw [HU.out, ← hit, ← ht]
              show (match (if quoteL t.data.toList = s.data.toList then some t.data.toList else none) with | some t => (t, (0 : Int)) | none => ([], 3)) = _
              rw [if_neg (fun e => hqs (by rw [← hq, e, str_list]))])
            have ne := bytes_ne hqs
            clear hit ht htz hown hb hrd hlt hk hq hqs
            go_wp2_with (go_at_call 14; refine (Q.out _).mono ?_; rintro e w2 ⟨rfl, b2⟩; obtain ⟨o2, B2⟩ := own_put HB.out HO.out b2; have cv2 := own_conv o2; rw [hst] at cv2; have BB2 := Lib.hid B2; clear b2 o2 B2)
            go_ret2
            exact ⟨ret_unq (by rw [R.out]) (by rw [R.out]), BB2.out⟩
    · have R := Lib.hid (show unqR s.data.toList = ([], 3) by unfold unqR; rw [unq_not _ hp (by rw [hz]; exact hg)])
      have hways : ((s.size : Int) < 2) ∨ ∃ c : UInt8, s.data.toList[0]? = some c ∧ 2 ≤ s.size ∧ (((c.toNat : Int) != 34) = true ∨ ((c.toNat : Int) != 34) = false ∧ ∃ d : UInt8, s.data.toList[s.size - 1]? = some d ∧ ((d.toNat : Int) != 34) = true) := by
        by_cases h2 : 2 ≤ s.size
        · obtain ⟨c, hc⟩ := get_at' s 0 (by omega)
          obtain ⟨d, hd⟩ := get_at' s (s.size - 1) (by omega)
          refine Or.inr ⟨c, hc, h2, ?_⟩
          by_cases hc34 : c = 34
          · refine Or.inr ⟨by rw [hc34]; rfl, d, hd, bne_true (fun e => hg ⟨h2, by rw [hc, hc34], by rw [hd, UInt8.toNat_inj.1 (show d.toNat = (34 : UInt8).toNat by show _ = 34; omega)]⟩)⟩
          · exact Or.inl (bne_true (fun e => hc34 (UInt8.toNat_inj.1 (show c.toNat = (34 : UInt8).toNat by show _ = 34; omega))))
        · exact Or.inl (by omega)
      clear hg hp hz
      rcases hways with g1 | ⟨c, hc, h2, g1 | ⟨g1, d, hd, g3⟩⟩
      · go_enter Tryd.func16, Tryd.ntmps16
        go_wp2_with fail
        refine (P.out _).mono ?_
        rintro e w1 ⟨rfl, b1⟩
        go_wp2_with fail
        go_ret2
        exact ⟨ret_unq (by rw [R.out]) (by rw [R.out]), b1⟩
      · have k0 := fun W => at_run s 0 c hc 0 rfl W
        have g2 : decide ((s.size : Int) < 2) = false := by simp; omega
        clear hc
        go_enter Tryd.func16, Tryd.ntmps16
        go_wp2_with fail
        refine (P.out _).mono ?_
        rintro e w1 ⟨rfl, b1⟩
        go_wp2_with fail
        go_ret2
        exact ⟨ret_unq (by rw [R.out]) (by rw [R.out]), b1⟩
      · have k0 := fun W => at_run s 0 c hc 0 rfl W
        have k1 := fun W => at_run s (s.size - 1) d hd ((s.size : Int) - 1) (by omega) W
        have g2 : decide ((s.size : Int) < 2) = false := by simp; omega
        have g4 : 1 ≤ (s.size : Int) := by omega
        clear hc hd
        go_enter Tryd.func16, Tryd.ntmps16
        go_wp2_with fail
        refine (P.out _).mono ?_
        rintro e w1 ⟨rfl, b1⟩
        go_wp2_with fail
        go_ret2
        exact ⟨ret_unq (by rw [R.out]) (by rw [R.out]), b1⟩
end Go.Proofs.YtpdekihfgglmkaaDoor
