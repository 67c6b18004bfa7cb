/-
  Compare, of package ident and of its reference; whether a string begins with another; the bounds of a list; the place of a string in a list; whether two lists of ints are equal: what each call answers; it changes nothing and at most draws. Condition: strings of at most 2^40 bytes, lists of fewer than 2^40 elements.
-/
import Derived.Test.YtfmajfmimgcfnaaIVal
import Derived.Test.YtfmajfmimgcfnaaOwnI
import Derived.Test.YtfmajfmimgcfnaaShelf
namespace Go.Proofs.Ytfmajfmimgcfnaa
open Go.RowKit

/-- A contract that only draws, in a region that draws. -/
theorem quiet_on {P : Program} {f : FuncId} {args : Array Value} {x : Value} (h : ∀ w : World, Calls P f args w fun e w' => e = .returned x ∧ ∃ m, w' = w.drewN m) (w : World) (n : Nat) : Calls P f args (w.drewN n) fun e w'' => e = .returned x ∧ ∃ m, w'' = w.drewN m :=
  (h _).mono fun _ _ ⟨he, m, hm⟩ => ⟨he, n + m, by rw [hm, World.drewN_drewN]⟩
theorem Calls.below {P : Program} {f : FuncId} {args : Array Value} {x : Ending} {w : World} (h : Calls P f args w fun e w' => e = x ∧ ∃ m, w' = w.drewN m) : Calls P f args w fun e w' => e = x ∧ Below w.heap.size w w' :=
  h.mono fun _ _ ⟨he, m, hm⟩ => ⟨he, hm ▸ below_drewN (Below.refl _ _) m⟩
theorem drew_below {w wr : World} (h : ∃ n, wr = w.drewN n) : Below w.heap.size w wr := by
  obtain ⟨n, rfl⟩ := h
  exact below_drewN (Below.refl _ _) n
theorem drew_on {w wr : World} (h : Hid (∃ n, wr = w.drewN n)) (m : Nat) : Hid (∃ n, wr.drewN m = w.drewN n) := by
  obtain ⟨n, rfl⟩ := h.out
  exact Lib.hid ⟨n + m, World.drewN_drewN _ _ _⟩

/-! ### Compare -/
theorem compare_any (a b : ByteArray) (w : World) : Calls Try.prog 15 #[.string a, .string b] w fun e w' => e = .returned (.int .i64 (cmpL a.data.toList b.data.toList)) ∧ w = w' := by
  have C := Try.strings_Compare a b
  rw [cmp_bytes] at C
  generalize cmpL a.data.toList b.data.toList = r at C ⊢
  go_enter Try.func15, Try.ntmps15
  go_wp2_with fail
  refine (C _).mono ?_
  rintro e w' ⟨rfl, rfl⟩
  go_wp2_with fail
  go_ret
  exact ⟨rfl, rfl⟩
theorem cmp_at (a b : List UInt8) (k : Nat) (c d : UInt8) (ht : a.take k = b.take k) (hc : a[k]? = some c) (hd : b[k]? = some d) : cmpL a b = if c.toNat < d.toNat then -1 else if d.toNat < c.toNat then 1 else cmpL (a.drop (k + 1)) (b.drop (k + 1)) := by
  rw [cmp_drop k a b ht, drop_at a k c hc, drop_at b k d hd]
  rfl
theorem cmp_end (a b : List UInt8) (k : Nat) (ht : a.take k = b.take k) (hk : a.length ≤ k ∨ b.length ≤ k) (h1 : k ≤ a.length) (h2 : k ≤ b.length) : cmpL a b = if a.length < b.length then -1 else if b.length < a.length then 1 else 0 := by
  rw [cmp_drop k a b ht]
  have la : (a.drop k).length = a.length - k := List.length_drop
  have lb : (b.drop k).length = b.length - k := List.length_drop
  cases ha : a.drop k with
  | nil =>
    rw [ha] at la
    cases hb : b.drop k with
    | nil =>
      rw [hb] at lb
      simp at la lb
      rw [if_neg (by omega), if_neg (by omega)]
      rfl
    | cons y r =>
      rw [hb] at lb
      simp at la lb
      rw [if_pos (by omega)]
      rfl
  | cons x q =>
    rw [ha] at la
    cases hb : b.drop k with
    | nil =>
      rw [hb] at lb
      simp at la lb
      rw [if_neg (by omega), if_pos (by omega)]
      rfl
    | cons y r =>
      rw [hb] at lb
      simp at la lb
      omega
set_option maxHeartbeats 1000000 in
theorem rcompare_any (a b : ByteArray) (ha : a.size ≤ 1099511627776) (w : World) : Calls Try.prog 16 #[.string a, .string b] w fun e w' => e = .returned (.int .i64 (cmpL a.data.toList b.data.toList)) ∧ ∃ m, w' = w.drewN m := by
  obtain ⟨r, hr⟩ : ∃ r, cmpL a.data.toList b.data.toList = r := ⟨_, rfl⟩
  rw [hr]
  have HR := Lib.hid hr
  have ea := sz_list a
  have eb := sz_list b
  have EA := Lib.hid ea
  have EB := Lib.hid eb
  clear hr ea eb
  go_enter Try.func16, Try.ntmps16
  go_wp2_with fail
  go_loopw [5] (fun i wr => ∃ k n : Nat, i = .int .i64 k ∧ k ≤ a.size ∧ k ≤ b.size ∧ Hid (a.data.toList.take k = b.data.toList.take k) ∧ wr = w.drewN n) (fun i _ => a.size - (intOf i).toNat)
  case atStart => exact ⟨0, 0, rfl, Nat.zero_le _, Nat.zero_le _, Lib.hid rfl, rfl⟩
  case round =>
    obtain ⟨k, n, rfl, h1, h2, ht, rfl⟩ := hrel
    by_cases hk1 : k < a.size
    · by_cases hk2 : k < b.size
      · obtain ⟨c, hc⟩ := get_at' a k hk1
        obtain ⟨d, hd⟩ := get_at' b k hk2
        have k1 := fun W => at_run a k c hc k rfl W
        have k2 := fun W => at_run b k d hd k rfl W
        have hcm := cmp_at _ _ k c d ht.out hc hd
        have htk : c = d → Hid (a.data.toList.take (k + 1) = b.data.toList.take (k + 1)) := by
          intro e
          show _ = _
          rw [take_at _ k c hc, take_at _ k d hd, ht.out, e]
        obtain ⟨x, hx⟩ : ∃ x : Int, x = c.toNat := ⟨_, rfl⟩
        obtain ⟨y, hy⟩ : ∃ y : Int, y = d.toNat := ⟨_, rfl⟩
        rw [← hx] at k1
        rw [← hy] at k2
        by_cases g1 : x < y
        · rw [if_pos (by omega)] at hcm
          have HC := Lib.hid hcm
          clear hcm htk hc hd hx hy ht
          go_wp2_with fail
          go_quiet (fail)
          go_wp2_with fail
          go_ret
          exact ⟨ret_int (by rw [← HC.out, HR.out]), n + nq, by rw [World.drewN_drewN]⟩
        · have g1' : decide (x < y) = false := decide_eq_false g1
          by_cases g2 : y < x
          · rw [if_neg (by omega), if_pos (by omega)] at hcm
            have HC := Lib.hid hcm
            clear hcm htk hc hd hx hy ht g1
            go_wp2_with fail
            go_quiet (fail)
            rw [World.drewN_drewN]
            generalize n + nq = n1
            clear nq
            go_wp2_with fail
            go_quiet (fail)
            go_wp2_with fail
            go_ret
            exact ⟨ret_int (by rw [← HC.out, HR.out]), n1 + nq, by rw [World.drewN_drewN]⟩
          · have g2' : decide (y < x) = false := decide_eq_false g2
            have hcd := htk (UInt8.toNat_inj.1 (by omega))
            clear hcm htk hc hd hx hy ht g1 g2
            go_wp2_with fail
            go_quiet (fail)
            rw [World.drewN_drewN]
            generalize n + nq = n1
            clear nq
            go_wp2_with fail
            go_quiet (fail)
            go_wp2_with fail
            go_roundw
            case rel => exact ⟨k + 1, n1 + nq, by go_num, by omega, by omega, hcd, rfl⟩
            case measure => simp [intOf]; omega
      · have hcm := cmp_end _ _ k ht.out (Or.inr (by rw [sz_list]; omega)) (by rw [sz_list]; exact h1) (by rw [sz_list]; exact h2)
        have l2 : decide (k < b.size) = false := decide_eq_false hk2
        rw [sz_list, sz_list, if_neg (by omega), if_pos (by omega)] at hcm
        have g1 : decide (a.size < b.size) = false := decide_eq_false (by omega)
        have g2 : b.size < a.size := by omega
        have HC := Lib.hid hcm
        clear hcm ht hk2
        go_wp2_with fail
        go_ret
        exact ⟨ret_int (by rw [← HC.out, HR.out]), n, rfl⟩
    · have hcm := cmp_end _ _ k ht.out (Or.inl (by rw [sz_list]; omega)) (by rw [sz_list]; exact h1) (by rw [sz_list]; exact h2)
      have l1 : decide (k < a.size) = false := decide_eq_false hk1
      rw [sz_list, sz_list] at hcm
      by_cases g1 : a.size < b.size
      · rw [if_pos g1] at hcm
        have HC := Lib.hid hcm
        clear hcm ht hk1
        go_wp2_with fail
        go_ret
        exact ⟨ret_int (by rw [← HC.out, HR.out]), n, rfl⟩
      · rw [if_neg g1, if_neg (by omega)] at hcm
        have g1' : decide (a.size < b.size) = false := decide_eq_false g1
        have g2 : decide (b.size < a.size) = false := decide_eq_false (by omega)
        have HC := Lib.hid hcm
        clear hcm ht hk1 g1
        go_wp2_with fail
        go_ret
        exact ⟨ret_int (by rw [← HC.out, HR.out]), n, rfl⟩

/-! ### Begins -/
theorem has_any (s p : ByteArray) (w : World) : Calls Try.prog 37 #[.string s, .string p] w fun e w' => e = .returned (.bool (beginsB p.data.toList s.data.toList)) ∧ w = w' :=
  (Try.strings_HasPrefix s p w).mono fun _ _ ⟨he, hw⟩ => ⟨he, hw.symm⟩
theorem begins_any (s p : ByteArray) (w : World) : Calls Try.prog 36 #[.string s, .string p] w fun e w' => e = .returned (.bool (beginsB p.data.toList s.data.toList)) ∧ w = w' := by
  have hb := begins_iff p.data.toList s.data.toList
  rw [sz_list, sz_list] at hb
  by_cases h : p.size ≤ s.size
  · obtain ⟨t, ht, htz, hts⟩ := as_str (s.data.toList.take p.size)
    have k1 := fun W => sl_to s t p.size h ht.symm p.size rfl W
    rw [decide_eq_true h, Bool.true_and, ← ht] at hb
    have g : (p.size : Int) ≤ s.size := by omega
    have g2 : (t.toList == p.toList) = beginsB p.data.toList s.data.toList := by
      rw [hb, Lib.toList_data, Lib.toList_data, Bool.eq_iff_iff]
      simp
    clear hb ht htz hts
    generalize beginsB p.data.toList s.data.toList = r at g2 ⊢
    go_enter Try.func36, Try.ntmps36
    go_wp2_with fail
    go_ret
    exact ⟨rfl, rfl⟩
  · rw [decide_eq_false h, Bool.false_and] at hb
    rw [hb]
    have g : decide ((p.size : Int) ≤ (s.size : Int)) = false := by simp; omega
    have g' : decide (p.size ≤ s.size) = false := decide_eq_false h
    clear hb h
    go_enter Try.func36, Try.ntmps36
    go_wp2_with fail
    go_ret
    exact ⟨rfl, rfl⟩

/-! ### small -/
/-- A list of at most 60 strings of at most 2^10 bytes each. -/
def smallL (l : List (List UInt8)) : Bool := decide (l.length ≤ 60) && l.all fun x => decide (x.length ≤ 1024)
theorem small_many (l : List (List UInt8)) (h : 60 < l.length) : smallL l = false := by
  unfold smallL
  rw [decide_eq_false (by omega)]
  rfl
theorem small_long (l : List (List UInt8)) (k : Nat) (x : List UInt8) (h : l[k]? = some x) (hx : 1024 < x.length) : smallL l = false := by
  cases hs : smallL l with
  | false => rfl
  | true =>
    unfold smallL at hs
    rw [Bool.and_eq_true, List.all_eq_true] at hs
    have := of_decide_eq_true (hs.2 x (List.mem_iff_getElem?.2 ⟨k, h⟩))
    omega
theorem small_yes (l : List (List UInt8)) (h : l.length ≤ 60) (hx : ∀ (k : Nat) x, k < l.length → l[k]? = some x → x.length ≤ 1024) : smallL l = true := by
  unfold smallL
  rw [decide_eq_true h, Bool.true_and, List.all_eq_true]
  intro x hm
  obtain ⟨k, hk⟩ := List.mem_iff_getElem?.1 hm
  exact decide_eq_true (hx k x (List.getElem?_eq_some_iff.1 hk).1 hk)
theorem small_iff (l : List (List UInt8)) : smallL l = true ↔ l.length ≤ 60 ∧ ∀ x ∈ l, x.length ≤ 1024 := by
  unfold smallL
  rw [Bool.and_eq_true, List.all_eq_true]
  simp
set_option maxHeartbeats 1000000 in
theorem small_any (v : Value) (l : List (List UInt8)) (hl : l.length ≤ 9223372036854775807) (w : World) (h : Lst w v l) : Calls Try.prog 17 #[v] w fun e w' => e = .returned (.bool (smallL l)) ∧ w = w' := by
  obtain ⟨A, c, rfl, _, hx⟩ := h
  by_cases h1 : 60 < l.length
  · have R := Lib.hid (small_many l h1)
    have g : (60 : Int) < (l.length : Int) := by omega
    clear hx h1
    go_enter Try.func17, Try.ntmps17
    go_wp2_with fail
    go_ret
    exact ⟨ret_bool R.out.symm, rfl⟩
  have g : decide ((60 : Int) < (l.length : Int)) = false := by simp; omega
  have hl1 : l.length ≤ 60 := by omega
  have HX := Lib.hid hx
  clear hx h1
  go_enter Try.func17, Try.ntmps17
  go_wp2_with fail
  go_loop [3] (fun i => ∃ k : Nat, i = .int .i64 k ∧ k ≤ l.length ∧ Hid (∀ (j : Nat) x, j < k → l[j]? = some x → x.length ≤ 1024)) (fun i => l.length - (intOf i).toNat)
  case atStart => exact ⟨0, rfl, Nat.zero_le _, Lib.hid (fun j x hj => absurd hj (Nat.not_lt_zero _))⟩
  case round =>
    obtain ⟨k, rfl, hk, hall⟩ := hrel
    by_cases hlt : k < l.length
    · obtain ⟨b, o, rfl, hb, hcell⟩ := HX.out (by omega)
      obtain ⟨x, hx⟩ := at_lt hlt
      have hc := hcell k _ (sts_at l k x hx)
      obtain ⟨s, hs, hsz, hst⟩ := as_str x
      rw [hst] at hc
      clear hcell HX
      by_cases h4 : 1024 < x.length
      · have R := Lib.hid (small_long l k x hx h4)
        have g4 : (1024 : Int) < (s.size : Int) := by omega
        clear hx hs hsz hst h4 hall
        go_wp2_with fail
        go_ret
        exact ⟨ret_bool R.out.symm, rfl⟩
      · have g4 : decide ((1024 : Int) < (s.size : Int)) = false := by simp; omega
        have hst2 : Hid (∀ (j : Nat) y, j < k + 1 → l[j]? = some y → y.length ≤ 1024) := by
          intro j y hj hy
          by_cases hjk : j < k
          · exact hall.out j y hjk hy
          · obtain rfl : j = k := by omega
            rw [hx] at hy
            obtain rfl := Option.some.inj hy
            omega
        clear hx hs hsz hst h4 hall
        go_wp2_with fail
        go_round
        case rel => exact ⟨k + 1, by go_num, by omega, hst2⟩
        case measure => simp [intOf]; omega
    · have R := Lib.hid (small_yes l hl1 (fun j x hj => hall.out j x (by omega)))
      have d : decide (k < l.length) = false := by rw [decide_eq_false_iff_not]; exact hlt
      clear hall hlt HX
      go_wp2_with fail
      go_ret
      exact ⟨ret_bool R.out.symm, rfl⟩

/-! ### The place in a list -/
/-- The index of the first such string, or -1. -/
def findR (l : List (List UInt8)) (x : List UInt8) : Int := if x ∈ l then (l.idxOf x : Nat) else -1
theorem find_hit (l : List (List UInt8)) (x : List UInt8) (k : Nat) (hb : x ∉ l.take k) (h : l[k]? = some x) : findR l x = k := by
  have hm : x ∈ l := List.mem_iff_getElem?.2 ⟨k, h⟩
  unfold findR
  rw [if_pos hm]
  have h1 : l = l.take k ++ x :: l.drop (k + 1) := by rw [← drop_at l k x h, List.take_append_drop]
  have hk := (List.getElem?_eq_some_iff.1 h).1
  rw [h1, List.idxOf_append, if_neg hb, List.idxOf_cons_self, List.length_take]
  omega
theorem find_miss (l : List (List UInt8)) (x : List UInt8) (h : x ∉ l) : findR l x = -1 := by
  unfold findR
  rw [if_neg h]
theorem find_in (l : List (List UInt8)) (x : List UInt8) : (0 : Int) ≤ findR l x ↔ x ∈ l := by
  unfold findR
  by_cases h : x ∈ l
  · rw [if_pos h]; simp [h]
  · rw [if_neg h]; simp [h]
set_option maxHeartbeats 1000000 in
theorem rfind_any (v : Value) (l : List (List UInt8)) (hl : l.length ≤ 1099511627776) (t : ByteArray) (w : World) (h : Lst w v l) : Calls Try.prog 22 #[v, .string t] w fun e w' => e = .returned (.int .i64 (findR l t.data.toList)) ∧ w = w' := by
  obtain ⟨A, c, rfl, _, hx⟩ := h
  have HX := Lib.hid hx
  obtain ⟨r, hr⟩ : ∃ r, findR l t.data.toList = r := ⟨_, rfl⟩
  rw [hr]
  have HR := Lib.hid hr
  clear hx hr
  go_enter Try.func22, Try.ntmps22
  go_wp2_with fail
  go_loop [5] (fun i => ∃ k : Nat, i = .int .i64 k ∧ k ≤ l.length ∧ Hid (t.data.toList ∉ l.take k)) (fun i => l.length - (intOf i).toNat)
  case atStart => exact ⟨0, rfl, Nat.zero_le _, Lib.hid (by simp)⟩
  case round =>
    obtain ⟨k, rfl, hk, hall⟩ := hrel
    by_cases hlt : k < l.length
    · obtain ⟨b, o, rfl, hb, hcell⟩ := HX.out (by omega)
      obtain ⟨x, hx⟩ := at_lt hlt
      have hc := hcell k _ (sts_at l k x hx)
      obtain ⟨s, hs, hsz, hst⟩ := as_str x
      rw [hst] at hc
      clear hcell HX
      by_cases h4 : s = t
      · have R := Lib.hid (find_hit l _ k hall.out (by rw [hx, ← hs, h4]))
        have g4 := bytes_eq h4
        clear hx hs hsz hst h4 hall
        go_wp2_with fail
        go_ret
        exact ⟨ret_int (by rw [← HR.out, R.out]), rfl⟩
      · have g4 := bytes_ne h4
        have hst2 : Hid (t.data.toList ∉ l.take (k + 1)) := by
          show ¬ _
          rw [take_at l k x hx, List.mem_append]
          rintro (h | h)
          · exact hall.out h
          · rw [List.mem_singleton] at h
            apply h4
            rw [← str_list s, ← str_list t, hs, h]
        clear hx hs hsz hst h4 hall
        go_wp2_with fail
        go_round
        case rel => exact ⟨k + 1, by go_num, by omega, hst2⟩
        case measure => simp [intOf]; omega
    · have R : Hid (r = -1) := by
        have := hall.out
        rw [List.take_of_length_le (by omega)] at this
        show _ = _
        rw [← HR.out, find_miss _ _ this]
      have d : decide (k < l.length) = false := by rw [decide_eq_false_iff_not]; exact hlt
      clear hall hlt HX
      go_wp2_with fail
      go_ret
      exact ⟨ret_int R.out.symm, rfl⟩

/-! ### same -/
theorem same_at {a b : List Int} (k : Nat) (x y : Int) (hx : a[k]? = some x) (hy : b[k]? = some y) (h : x ≠ y) : decide (a = b) = false := by
  rw [decide_eq_false_iff_not]
  intro e
  rw [e, hy] at hx
  exact h (Option.some.inj hx).symm
theorem same_of {a b : List Int} (hl : a.length = b.length) (h : ∀ (j : Nat) x, j < a.length → a[j]? = some x → b[j]? = some x) : decide (a = b) = true := by
  rw [decide_eq_true_iff]
  apply List.ext_getElem? fun j => ?_
  by_cases hj : j < a.length
  · obtain ⟨x, hx⟩ := at_lt hj
    rw [hx, h j x hj hx]
  · rw [List.getElem?_eq_none (by omega), List.getElem?_eq_none (by omega)]
set_option maxHeartbeats 1000000 in
theorem same_any (u v : Value) (a b : List Int) (ha : a.length ≤ 1099511627776) (w : World) (h1 : LstI w u a) (h2 : LstI w v b) : Calls Try.prog 25 #[u, v] w fun e w' => e = .returned (.bool (decide (a = b))) ∧ ∃ m, w' = w.drewN m := by
  obtain ⟨A, c, rfl, _, _, hx⟩ := h1
  obtain ⟨B, d, rfl, _, _, hy⟩ := h2
  obtain ⟨r, hr⟩ : ∃ r, decide (a = b) = r := ⟨_, rfl⟩
  rw [hr]
  have HR := Lib.hid hr
  clear hr
  by_cases hl : a.length = b.length
  · have g : ((a.length : Int) != (b.length : Int)) = false := neq_false (by omega)
    have g' : (a.length != b.length) = false := by rw [hl]; simp
    have HX := Lib.hid hx
    have HY := Lib.hid hy
    have HL := Lib.hid hl
    clear hx hy hl
    go_enter Try.func25, Try.ntmps25
    go_wp2_with fail
    go_loopw [5] (fun i wr => ∃ k : Nat, i = .int .i64 k ∧ k ≤ a.length ∧ Hid (∀ (j : Nat) x, j < k → a[j]? = some x → b[j]? = some x) ∧ Hid (∃ n, wr = w.drewN n)) (fun i _ => a.length - (intOf i).toNat)
    case atStart => exact ⟨0, rfl, Nat.zero_le _, Lib.hid (fun j x hj => absurd hj (Nat.not_lt_zero _)), Lib.hid ⟨0, rfl⟩⟩
    case round =>
      clear g g'
      obtain ⟨k, rfl, hk, hall, hn⟩ := hrel
      by_cases hlt : k < a.length
      · obtain ⟨b1, o1, rfl, hb1, hc1⟩ := HX.out (by omega)
        obtain ⟨b2, o2, rfl, hb2, hc2⟩ := HY.out (by have := HL.out; omega)
        obtain ⟨x, hx⟩ := at_lt hlt
        obtain ⟨y, hy⟩ := at_lt (l := b) (k := k) (by have := HL.out; omega)
        have hbw := drew_below hn.out
        have m1 := (hbw.cell (p := ⟨b1, o1 + k, none⟩) hb1).trans (hc1 k _ (ints_at a k x hx))
        have m2 := (hbw.cell (p := ⟨b2, o2 + k, none⟩) hb2).trans (hc2 k _ (ints_at b k y hy))
        have gk : (k : Int) < (a.length : Int) := by omega
        have gk2 : (k : Int) < (b.length : Int) := by have := HL.out; omega
        clear hc1 hc2 hbw
        by_cases hxy : x = y
        · have ne : (x != y) = false := neq_false hxy
          have hall2 : Hid (∀ (j : Nat) z, j < k + 1 → a[j]? = some z → b[j]? = some z) := by
            intro j z hj hz
            by_cases hjk : j < k
            · exact hall.out j z hjk hz
            · obtain rfl : j = k := by omega
              rw [hx] at hz
              rw [hy, ← hxy]
              exact hz
          clear hx hy hxy hall HX HY
          go_wp2_with fail
          go_quiet (fail)
          go_wp2_with fail
          go_roundw
          case rel => exact ⟨k + 1, by go_num, by omega, hall2, drew_on hn nq⟩
          case measure => simp [intOf]; omega
        · have ne : (x != y) = true := bne_true hxy
          have R := Lib.hid (same_at k x y hx hy hxy)
          clear hx hy hxy hall HX HY
          go_wp2_with fail
          go_quiet (fail)
          go_wp2_with fail
          go_ret
          exact ⟨ret_bool (by rw [← HR.out, R.out]), (drew_on hn nq).out⟩
      · have R := Lib.hid (same_of HL.out (fun j x hj => hall.out j x (by omega)))
        have d : decide (k < a.length) = false := by rw [decide_eq_false_iff_not]; exact hlt
        clear hall hlt HX HY
        go_wp2_with fail
        go_ret
        exact ⟨ret_bool (by rw [← HR.out, R.out]), hn.out⟩
  · have g : ((a.length : Int) != (b.length : Int)) = true := bne_true (by omega)
    have g' : (a.length != b.length) = true := by simpa using hl
    have R : Hid (r = false) := by
      show _ = _
      rw [← HR.out, decide_eq_false_iff_not]
      exact fun e => hl (by rw [e])
    clear hx hy hl
    go_enter Try.func25, Try.ntmps25
    go_wp2_with fail
    go_ret
    exact ⟨ret_bool R.out.symm, 0, rfl⟩
end Go.Proofs.Ytfmajfmimgcfnaa
