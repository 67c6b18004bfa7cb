/-
  The laws' same, small, table, example and exampleHolds: what each call answers; nothing that existed before the call has changed behind it. Condition: lists of fewer than 2^40 trips; the table that numerals are made with.
-/
import Derived.Test.YtfbobfejnbhjbaaDoorTrGrp
import Derived.Test.YtfbobfejnbhjbaaDoorTrFnd
import Derived.Test.YtfbobfejnbhjbaaDoorTrChk
import Derived.Test.YtfbobfejnbhjbaaDoorTrOvr
import Derived.Test.YtfbobfejnbhjbaaDoorDrH
namespace Go.Proofs.YtfbobfejnbhjbaaDoor
open Go.RowKit

set_option maxHeartbeats 1000000 in
theorem lsame_any (u v : Value) (a b : List Int) (ha : a.length ≤ 1099511627776) (w : World) (h1 : LstI w u a) (h2 : LstI w v b) : Calls Tryd.prog 24 #[u, v] w fun e w' => e = .returned (.bool (decide (a = b))) ∧ ∃ m, w' = w.drewN m := by
  obtain ⟨A, c, rfl, _, _, hx⟩ := h1
  obtain ⟨B, d, rfl, _, _, hy⟩ := h2
  obtain ⟨r, hr⟩ : ∃ r, decide (a = b) = r := ⟨_, rfl⟩
  rw [hr]
  have HR := Lib.hid hr
  clear hr
  by_cases hl : a.length = b.length
  · have g : ((a.length : Int) != (b.length : Int)) = false := neq_false (by omega)
    have g' : (a.length != b.length) = false := by rw [hl]; simp
    have HX := Lib.hid hx
    have HY := Lib.hid hy
    have HL := Lib.hid hl
    clear hx hy hl
    go_enter Tryd.func24, Tryd.ntmps24
    go_wp2_with fail
    go_loopw [5] (fun i wr => ∃ k : Nat, i = .int .i64 k ∧ k ≤ a.length ∧ Hid (∀ (j : Nat) x, j < k → a[j]? = some x → b[j]? = some x) ∧ Hid (∃ n, wr = w.drewN n)) (fun i _ => a.length - (intOf i).toNat)
    case atStart => exact ⟨0, rfl, Nat.zero_le _, Lib.hid (fun j x hj => absurd hj (Nat.not_lt_zero _)), Lib.hid ⟨0, rfl⟩⟩
    case round =>
      clear g g'
      obtain ⟨k, rfl, hk, hall, hn⟩ := hrel
      by_cases hlt : k < a.length
      · obtain ⟨b1, o1, rfl, hb1, hc1⟩ := HX.out (by omega)
        obtain ⟨b2, o2, rfl, hb2, hc2⟩ := HY.out (by have := HL.out; omega)
        obtain ⟨x, hx⟩ := at_lt hlt
        obtain ⟨y, hy⟩ := at_lt (l := b) (k := k) (by have := HL.out; omega)
        have hbw := drew_below hn.out
        have m1 := (hbw.cell (p := ⟨b1, o1 + k, none⟩) hb1).trans (hc1 k _ (ints_at a k x hx))
        have m2 := (hbw.cell (p := ⟨b2, o2 + k, none⟩) hb2).trans (hc2 k _ (ints_at b k y hy))
        have gk : (k : Int) < (a.length : Int) := by omega
        have gk2 : (k : Int) < (b.length : Int) := by have := HL.out; omega
        clear hc1 hc2 hbw
        by_cases hxy : x = y
        · have ne : (x != y) = false := neq_false hxy
          have hall2 : Hid (∀ (j : Nat) z, j < k + 1 → a[j]? = some z → b[j]? = some z) := by
            intro j z hj hz
            by_cases hjk : j < k
            · exact hall.out j z hjk hz
            · obtain rfl : j = k := by omega
              rw [hx] at hz
              rw [hy, ← hxy]
              exact hz
          clear hx hy hxy hall HX HY
          go_wp2_with fail
          go_quiet (fail)
          go_wp2_with fail
          go_roundw
          case rel => exact ⟨k + 1, by go_num, by omega, hall2, drew_on hn nq⟩
          case measure => simp [intOf]; omega
        · have ne : (x != y) = true := bne_true hxy
          have R := Lib.hid (same_at k x y hx hy hxy)
          clear hx hy hxy hall HX HY
          go_wp2_with fail
          go_quiet (fail)
          go_wp2_with fail
          go_ret
          exact ⟨ret_bool (by rw [← HR.out, R.out]), (drew_on hn nq).out⟩
      · have R := Lib.hid (same_of HL.out (fun j x hj => hall.out j x (by omega)))
        have d : decide (k < a.length) = false := by rw [decide_eq_false_iff_not]; exact hlt
        clear hall hlt HX HY
        go_wp2_with fail
        go_ret
        exact ⟨ret_bool (by rw [← HR.out, R.out]), hn.out⟩
  · have g : ((a.length : Int) != (b.length : Int)) = true := bne_true (by omega)
    have g' : (a.length != b.length) = true := by simpa using hl
    have R : Hid (r = false) := by
      show _ = _
      rw [← HR.out, decide_eq_false_iff_not]
      exact fun e => hl (by rw [e])
    clear hx hy hl
    go_enter Tryd.func24, Tryd.ntmps24
    go_wp2_with fail
    go_ret
    exact ⟨ret_bool R.out.symm, 0, rfl⟩

/-- Whether a trip is small. -/
def smlT (x : Tp) : Bool := decide (x.1.length ≤ 1024) && decide (x.2.2.2.2.2.length ≤ 40)
def tabT (n : Int) (l : List Tp) : Bool := decide ((l.length : Int) ≤ n) && l.all smlT
theorem tab_many {n : Int} {l : List Tp} (h : n < (l.length : Int)) : tabT n l = false := by unfold tabT; rw [decide_eq_false (by omega)]; rfl
theorem tab_stop {n : Int} {l : List Tp} {k : Nat} {x : Tp} (h : l[k]? = some x) (hx : smlT x = false) : tabT n l = false := by
  unfold tabT
  rw [Bool.and_eq_false_iff]
  right
  rw [List.all_eq_false]
  exact ⟨x, List.mem_iff_getElem?.2 ⟨k, h⟩, by rw [hx]; simp⟩
theorem tab_done {n : Int} {l : List Tp} (h : ¬ n < (l.length : Int)) (ha : ∀ x ∈ l, smlT x = true) : tabT n l = true := by
  unfold tabT
  rw [decide_eq_true (by omega), Bool.true_and, List.all_eq_true]
  exact ha
theorem tab_len {n : Int} {l : List Tp} (h : tabT n l = true) : (l.length : Int) ≤ n := by
  unfold tabT at h
  rw [Bool.and_eq_true] at h
  exact of_decide_eq_true h.1
theorem tab_small {n : Int} {l : List Tp} (h : tabT n l = true) : ∀ x ∈ l, x.2.2.2.2.2.length ≤ 40 := by
  intro x hx
  unfold tabT at h
  rw [Bool.and_eq_true, List.all_eq_true] at h
  have := h.2 x hx
  unfold smlT at this
  rw [Bool.and_eq_true] at this
  exact of_decide_eq_true this.2
theorem small_any (s : ByteArray) (r c : Int) (f : Bool) (v : Value) (l : List Cl) (w : World) (h : LstC w v l) :
    Calls Tryd.prog 18 #[.agg #[.string s, .int .i64 r, .int .i64 c, .bool f, v]] w fun e w' => e = .returned (.bool (decide (s.size ≤ 1024) && decide (l.length ≤ 40))) ∧ Below w.heap.size w w' := by
  obtain ⟨w7, hw7⟩ : ∃ W, w.alloc (.cells #[.string s, .int .i64 r, .int .i64 c, .bool f, v] 39 (0, 0)) = W := ⟨_, rfl⟩
  obtain ⟨b7, p0, -, -, -, p4, s7⟩ := box_tp hw7
  have B7 := Lib.hid b7
  obtain ⟨A, n, rfl, -, -, -⟩ := h
  clear b7
  by_cases h1 : s.size ≤ 1024
  · have g1 : (s.size : Int) ≤ 1024 := by omega
    by_cases h2 : l.length ≤ 40
    · have g2 : (l.length : Int) ≤ 40 := by omega
      rw [decide_eq_true h1, decide_eq_true h2]
      clear h1 h2
      go_enter Tryd.func18, Tryd.ntmps18
      go_wp2_with fail
      go_ret
      exact ⟨rfl, B7.out⟩
    · have g2 : decide ((l.length : Int) ≤ 40) = false := decide_eq_false (by omega)
      rw [decide_eq_true h1, decide_eq_false h2]
      clear h1 h2
      go_enter Tryd.func18, Tryd.ntmps18
      go_wp2_with fail
      go_ret
      exact ⟨rfl, B7.out⟩
  · have g1 : decide ((s.size : Int) ≤ 1024) = false := decide_eq_false (by omega)
    rw [decide_eq_false h1, Bool.false_and]
    clear h1
    go_enter Tryd.func18, Tryd.ntmps18
    go_wp2_with fail
    go_ret
    exact ⟨rfl, B7.out⟩
set_option maxRecDepth 100000 in
set_option maxHeartbeats 4000000 in
theorem table_any (v : Value) (l : List Tp) (hl : l.length ≤ 9223372036854775807) (n : Int) (w : World) (h : LstTp w v l) : Calls Tryd.prog 12 #[v, .int .i64 n] w fun e w' => e = .returned (.bool (tabT n l)) ∧ Below w.heap.size w w' := by
  have H := Lib.hid h
  obtain ⟨⟨A, m, rfl, -, -, -⟩, -⟩ := h
  by_cases hn : n < (l.length : Int)
  · rw [tab_many hn]
    go_enter Tryd.func12, Tryd.ntmps12
    go_wp2_with fail
    go_ret
    exact ⟨rfl, Below.refl _ _⟩
  have g : decide (n < (l.length : Int)) = false := decide_eq_false hn
  have HN := Lib.hid hn
  obtain ⟨R, hR⟩ : ∃ R, tabT n l = R := ⟨_, rfl⟩
  rw [hR]
  have HR := Lib.hid hR
  clear hn hR
  go_enter Tryd.func12, Tryd.ntmps12
  go_wp2_with fail
  go_loopw [5] (fun i wr => ∃ k : Nat, i = .int .i64 k ∧ k ≤ l.length ∧ Hid (∀ (j : Nat) x, j < k → l[j]? = some x → smlT x = true) ∧ Hid (Below w.heap.size w wr)) (fun i _ => l.length - (intOf i).toNat)
  case atStart => exact ⟨0, rfl, Nat.zero_le _, Lib.hid (fun j x hj => absurd hj (Nat.not_lt_zero _)), Lib.hid (Below.refl _ _)⟩
  case round =>
    clear g
    obtain ⟨k, rfl, hk, hall, HB⟩ := hrel
    by_cases hlt : k < l.length
    · obtain ⟨⟨ix, r, c, f, v, cl⟩, hx⟩ := at_lt hlt
      obtain ⟨nm, hnm⟩ : ∃ nm, str ix = nm := ⟨_, rfl⟩
      obtain ⟨b, o, B, m, rfl, rfl, hb, r0, r1, r2, r3, r4, lc, -, -⟩ := trip_at (H.out.below HB.out) hx hnm
      have gk : (k : Int) < (l.length : Int) := by omega
      have S := Lib.hid (small_any nm r c f (.slice B cl.length m) cl wr lc)
      have hs : (decide (nm.size ≤ 1024) && decide (cl.length ≤ 40)) = smlT (ix, r, c, f, .slice B cl.length m, cl) := by
        unfold smlT
        rw [← hnm, size_str]
      rw [hs] at S
      cases ht : smlT (ix, r, c, f, .slice B cl.length m, cl) with
      | true =>
        have N : Hid (∀ (j : Nat) x, j < k + 1 → l[j]? = some x → smlT x = true) := fun j x hj hx2 => by
          by_cases e : j = k
          · subst e
            rw [hx] at hx2
            cases hx2
            exact ht
          · exact hall.out j x (by omega) hx2
        rw [ht] at S
        clear hx hnm hb lc hs ht hall
        go_wp2_with fail
        refine S.out.mono ?_
        rintro e w8 ⟨rfl, b8⟩
        have B8 : Hid (Below w.heap.size w w8) := HB.out.trans (b8.mono HB.out.size)
        clear b8 HB S
        go_wp2_with fail
        go_roundw
        case rel => exact ⟨k + 1, by go_num, by omega, N, B8⟩
        case measure => simp [intOf]; omega
      | false =>
        have N := Lib.hid (tab_stop (n := n) hx ht)
        rw [ht] at S
        clear hx hnm hb lc hs ht hall
        go_wp2_with fail
        refine S.out.mono ?_
        rintro e w8 ⟨rfl, b8⟩
        have B8 : Hid (Below w.heap.size w w8) := HB.out.trans (b8.mono HB.out.size)
        clear b8 HB S
        go_wp2_with fail
        go_ret
        exact ⟨ret_bool (N.out.symm.trans HR.out), B8.out⟩
    · have E := Lib.hid (tab_done (n := n) (l := l) (by have := HN.out; omega) (fun x hx => by
        obtain ⟨j, hj⟩ := List.mem_iff_getElem?.1 hx
        exact hall.out j x (by have := (List.getElem?_eq_some_iff.1 hj).1; omega) hj))
      have d : decide (k < l.length) = false := by rw [decide_eq_false_iff_not]; exact hlt
      clear hlt hall
      go_wp2_with fail
      go_ret
      exact ⟨ret_bool (E.out.symm.trans HR.out), HB.out⟩

/-! ### The chapter's example -/
def exA : List Cl := [(0, 100, 100, true, true), (1, 200, 200, true, false), (2, 300, 300, true, true)]
def exB : List Cl := [(0, 0, 0, true, false), (2, 50, 50, false, true)]
def exC : List Cl := [(0, 160, 160, true, true), (1, 200, 200, true, false), (2, 240, 240, true, true)]
/-- A slice of n calls in a block of its own. -/
abbrev vA (a n : Nat) : Value := .slice (some ⟨a, 0, none⟩) n n
/-- The three trips; their calls lie in the blocks a, b, c. -/
def exT (a b c : Nat) : List Tp := [([97], 0, 0, false, vA a 3, exA), ([98], 0, 0, false, vA b 2, exB), ([99], 0, 0, false, vA c 3, exC)]
theorem ok_exA : exA.length ≤ 9223372036854775807 ∧ OkS exA := ⟨by decide, by unfold OkS exA; decide⟩
theorem ok_exB : exB.length ≤ 9223372036854775807 ∧ OkS exB := ⟨by decide, by unfold OkS exB; decide⟩
theorem ok_exC : exC.length ≤ 9223372036854775807 ∧ OkS exC := ⟨by decide, by unfold OkS exC; decide⟩
set_option maxRecDepth 100000 in
set_option maxHeartbeats 4000000 in
theorem example_any (w : World) : Calls Tryd.prog 30 #[] w fun e w' => ∃ v a b c, e = .returned v ∧ LstTp w' v (exT a b c) ∧ Below w.heap.size w w' := by
  obtain ⟨w1, hw1⟩ : ∃ W, w.alloc (.cells #[.int .i64 0, .int .i64 100, .int .i64 100, .bool true, .bool true, .int .i64 1, .int .i64 200, .int .i64 200, .bool true, .bool false, .int .i64 2, .int .i64 300, .int .i64 300, .bool true, .bool true] 44 (0, 0)) = W := ⟨_, rfl⟩
  have bw1 : Below w.heap.size w w1 := by rw [← hw1]; exact (Below.refl _ _).alloc (Nat.le_refl _) _
  have lw1 : LstC w1 (vA w.heap.size 3) exA := by rw [← hw1]; exact lstG_lit w _ _ exA rfl 3 rfl
  obtain ⟨w2, hw2⟩ : ∃ W, w1.alloc (.cells #[.string ⟨#[97]⟩, .int .i64 0, .int .i64 0, .bool false, .slice (some ⟨w.heap.size, 0, none⟩) 3 3] 39 (0, 0)) = W := ⟨_, rfl⟩
  obtain ⟨bw2, pw20, pw21, pw22, pw23, pw24, sw2⟩ := box_tp hw2
  obtain ⟨w3, hw3⟩ : ∃ W, w2.alloc (.cells #[.int .i64 0, .int .i64 0, .int .i64 0, .bool true, .bool false, .int .i64 2, .int .i64 50, .int .i64 50, .bool false, .bool true] 44 (0, 0)) = W := ⟨_, rfl⟩
  have bw3 : Below w2.heap.size w2 w3 := by rw [← hw3]; exact (Below.refl _ _).alloc (Nat.le_refl _) _
  have lw3 : LstC w3 (vA w2.heap.size 2) exB := by rw [← hw3]; exact lstG_lit w2 _ _ exB rfl 2 rfl
  obtain ⟨w4, hw4⟩ : ∃ W, w3.alloc (.cells #[.string ⟨#[98]⟩, .int .i64 0, .int .i64 0, .bool false, .slice (some ⟨w2.heap.size, 0, none⟩) 2 2] 39 (0, 0)) = W := ⟨_, rfl⟩
  obtain ⟨bw4, pw40, pw41, pw42, pw43, pw44, sw4⟩ := box_tp hw4
  obtain ⟨w5, hw5⟩ : ∃ W, w4.alloc (.cells #[.int .i64 0, .int .i64 160, .int .i64 160, .bool true, .bool true, .int .i64 1, .int .i64 200, .int .i64 200, .bool true, .bool false, .int .i64 2, .int .i64 240, .int .i64 240, .bool true, .bool true] 44 (0, 0)) = W := ⟨_, rfl⟩
  have bw5 : Below w4.heap.size w4 w5 := by rw [← hw5]; exact (Below.refl _ _).alloc (Nat.le_refl _) _
  have lw5 : LstC w5 (vA w4.heap.size 3) exC := by rw [← hw5]; exact lstG_lit w4 _ _ exC rfl 3 rfl
  obtain ⟨w6, hw6⟩ : ∃ W, w5.alloc (.cells #[.string ⟨#[99]⟩, .int .i64 0, .int .i64 0, .bool false, .slice (some ⟨w4.heap.size, 0, none⟩) 3 3] 39 (0, 0)) = W := ⟨_, rfl⟩
  obtain ⟨bw6, pw60, pw61, pw62, pw63, pw64, sw6⟩ := box_tp hw6
  have b23 := bw3.trans (bw4.mono bw3.size)
  have b45 := bw5.trans (bw6.mono bw5.size)
  have b26 := b23.trans (b45.mono b23.size)
  have q0 := (b26.cell (p := ⟨w1.heap.size, 0, none⟩) sw2).trans pw20
  have q1 := (b26.cell (p := ⟨w1.heap.size, 1, none⟩) sw2).trans pw21
  have q2 := (b26.cell (p := ⟨w1.heap.size, 2, none⟩) sw2).trans pw22
  have q3 := (b26.cell (p := ⟨w1.heap.size, 3, none⟩) sw2).trans pw23
  have q4 := (b26.cell (p := ⟨w1.heap.size, 4, none⟩) sw2).trans pw24
  have t0 := (b45.cell (p := ⟨w3.heap.size, 0, none⟩) sw4).trans pw40
  have t1 := (b45.cell (p := ⟨w3.heap.size, 1, none⟩) sw4).trans pw41
  have t2 := (b45.cell (p := ⟨w3.heap.size, 2, none⟩) sw4).trans pw42
  have t3 := (b45.cell (p := ⟨w3.heap.size, 3, none⟩) sw4).trans pw43
  have t4 := (b45.cell (p := ⟨w3.heap.size, 4, none⟩) sw4).trans pw44
  obtain ⟨w7, hw7⟩ : ∃ W, w6.alloc (.cells #[.string ⟨#[97]⟩, .int .i64 0, .int .i64 0, .bool false, .slice (some ⟨w.heap.size, 0, none⟩) 3 3, .string ⟨#[98]⟩, .int .i64 0, .int .i64 0, .bool false, .slice (some ⟨w2.heap.size, 0, none⟩) 2 2, .string ⟨#[99]⟩, .int .i64 0, .int .i64 0, .bool false, .slice (some ⟨w4.heap.size, 0, none⟩) 3 3] 39 (0, 0)) = W := ⟨_, rfl⟩
  have bw7 : Below w6.heap.size w6 w7 := by rw [← hw7]; exact (Below.refl _ _).alloc (Nat.le_refl _) _
  have L : LstT w7 (.slice (some ⟨w6.heap.size, 0, none⟩) 3 3) (exT w.heap.size w2.heap.size w4.heap.size) := by rw [← hw7]; exact lstG_lit w6 _ _ (exT w.heap.size w2.heap.size w4.heap.size) rfl 3 rfl
  have b01 := bw1.trans (bw2.mono bw1.size)
  have b06 := b01.trans (b26.mono b01.size)
  have b67 := b45.trans (bw7.mono b45.size)
  have b27 := b26.trans (bw7.mono b26.size)
  have BB : Hid (Below w.heap.size w w7) := b06.trans (bw7.mono b06.size)
  have LL : Hid (LstTp w7 (.slice (some ⟨w6.heap.size, 0, none⟩) 3 3) (exT w.heap.size w2.heap.size w4.heap.size)) := by
    refine ⟨L, fun x hx => ?_⟩
    unfold exT at hx
    rcases List.mem_cons.1 hx with rfl | hx
    · exact ⟨lw1.below (bw2.trans (b27.mono bw2.size)), ok_exA⟩
    rcases List.mem_cons.1 hx with rfl | hx
    · exact ⟨lw3.below (bw4.trans (b67.mono bw4.size)), ok_exB⟩
    rcases List.mem_cons.1 hx with rfl | hx
    · exact ⟨lw5.below (bw6.trans (bw7.mono bw6.size)), ok_exC⟩
    · cases hx
  clear L lw1 lw3 lw5 bw1 bw2 bw3 bw4 bw5 bw6 bw7 b23 b45 b26 b01 b06 b67 b27
  go_enter Tryd.func30, Tryd.ntmps30
  go_wp2_with fail
  go_ret
  exact ⟨_, _, _, _, rfl, LL.out, BB.out⟩
theorem ex_ok (a b c : Nat) : chkT 3 1 1 (exT a b c) = (0, 0) := by kernel_rfl
theorem ex_bad (a b c : Nat) : chkT 2 1 1 (exT a b c) = (0, 9) := by kernel_rfl
theorem ex_grp (a b c : Nat) : grp ((exT a b c).map ptT) = [[0, 2], [1]] := by kernel_rfl
theorem ex_find (a b c : Nat) : fdT (isT [98]) (exT a b c) = 1 := by kernel_rfl
theorem ex_b02 (a b c : Nat) : ixs (cnT 0 2) (exT a b c) = [0, 1, 2] := by kernel_rfl
theorem ex_b12 (a b c : Nat) : ixs (cnT 1 2) (exT a b c) = [0, 2] := by kernel_rfl
theorem ex_b01 (a b c : Nat) : ixs (cnT 0 1) (exT a b c) = [] := by kernel_rfl
theorem ex_ca : ovT exC exA = true := by decide +kernel
theorem ex_ac : ovT exA exC = false := by decide +kernel
theorem ex_ab : ovT exA exB = false := by decide +kernel
theorem ex_pat : stpC exA = [0, 1, 2] := by decide +kernel
theorem ex_same : sameP exA exC = true := by decide +kernel
theorem ex_calls (a b c : Nat) : ∀ x ∈ exT a b c, x.2.2.2.2.2.length ≤ 34359738368 := by
  intro x hx
  unfold exT at hx
  rcases List.mem_cons.1 hx with rfl | hx
  · show (_ : Nat) ≤ _; exact of_decide_eq_true rfl
  rcases List.mem_cons.1 hx with rfl | hx
  · show (_ : Nat) ≤ _; exact of_decide_eq_true rfl
  rcases List.mem_cons.1 hx with rfl | hx
  · show (_ : Nat) ≤ _; exact of_decide_eq_true rfl
  · cases hx
/-- The cells of the three trips. -/
theorem ex_cells {w : World} {g f n a b c : Nat} (h : LstTp w (.slice (some ⟨g, f, none⟩) 3 n) (exT a b c)) :
    (w.cell? ⟨g, f, none⟩ = some (.string ⟨#[97]⟩) ∧ w.cell? ⟨g, f + 1, none⟩ = some (.int .i64 0) ∧ w.cell? ⟨g, f + 2, none⟩ = some (.int .i64 0) ∧ w.cell? ⟨g, f + 3, none⟩ = some (.bool false) ∧ w.cell? ⟨g, f + 4, none⟩ = some (vA a 3)) ∧
    (w.cell? ⟨g, f + 5, none⟩ = some (.string ⟨#[98]⟩) ∧ w.cell? ⟨g, f + 6, none⟩ = some (.int .i64 0) ∧ w.cell? ⟨g, f + 7, none⟩ = some (.int .i64 0) ∧ w.cell? ⟨g, f + 8, none⟩ = some (.bool false) ∧ w.cell? ⟨g, f + 9, none⟩ = some (vA b 2)) ∧
    (w.cell? ⟨g, f + 10, none⟩ = some (.string ⟨#[99]⟩) ∧ w.cell? ⟨g, f + 11, none⟩ = some (.int .i64 0) ∧ w.cell? ⟨g, f + 12, none⟩ = some (.int .i64 0) ∧ w.cell? ⟨g, f + 13, none⟩ = some (.bool false) ∧ w.cell? ⟨g, f + 14, none⟩ = some (vA c 3)) := by
  obtain ⟨b0, f0, B0, m0, e0, e1, -, r0, r1, r2, r3, r4, -⟩ := trip_at h (i := 0) (s := ⟨#[97]⟩) rfl rfl
  cases e0
  cases e1
  obtain ⟨b1, f1, B1, m1, e0, e1, -, q0, q1, q2, q3, q4, -⟩ := trip_at h (i := 1) (s := ⟨#[98]⟩) rfl rfl
  cases e0
  cases e1
  obtain ⟨b2, f2, B2, m2, e0, e1, -, t0, t1, t2, t3, t4, -⟩ := trip_at h (i := 2) (s := ⟨#[99]⟩) rfl rfl
  cases e0
  cases e1
  exact ⟨⟨r0, r1, r2, r3, r4⟩, ⟨q0, q1, q2, q3, q4⟩, t0, t1, t2, t3, t4⟩
theorem ex_lists {w : World} {v : Value} {a b c : Nat} (h : LstTp w v (exT a b c)) : LstC w (vA a 3) exA ∧ LstC w (vA b 2) exB ∧ LstC w (vA c 3) exC :=
  ⟨(h.2 _ (List.mem_cons_self)).1, (h.2 _ (List.mem_cons_of_mem _ List.mem_cons_self)).1, (h.2 _ (List.mem_cons_of_mem _ (List.mem_cons_of_mem _ List.mem_cons_self))).1⟩
/-- A row of a slice of two rows. -/
theorem ll_row {w : World} {g o n : Nat} {ls : List (List Int)} (h : LL w (.slice (some ⟨g, o, none⟩) 2 n) ls) {i m : Nat} {l : List Int} (hl : ls[i]? = some l) (hm : l.length = m) : ∃ A c, (∀ W, Below w.heap.size w W → W.cell? ⟨g, o + i, none⟩ = some (.slice A m c)) ∧ LstI w (.slice A m c) l := by
  obtain ⟨-, b, o', t, hA, hb, hc, hL⟩ := h.at hl
  cases hA
  obtain ⟨A, c, hv, -, -, -⟩ := _root_.id hL
  rw [hm] at hv
  rw [hv] at hc hL
  exact ⟨A, c, fun W hW => (hW.cell (p := ⟨g, o + i, none⟩) hb).trans hc, hL⟩
theorem ex_shape {w : World} {v : Value} {a b c : Nat} (h : LstTp w v (exT a b c)) : ∃ g f n, v = .slice (some ⟨g, f, none⟩) 3 n := by
  obtain ⟨⟨A, n, rfl, -, -, hx⟩, -⟩ := h
  obtain ⟨g, f, rfl, -, -⟩ := hx (by show 0 < 3; omega)
  exact ⟨g, f, n, rfl⟩
theorem ll_shape {w : World} {v : Value} {l l' : List Int} (h : LL w v [l, l']) : ∃ g o n, v = .slice (some ⟨g, o, none⟩) 2 n := by
  obtain ⟨A, c, rfl⟩ := h.len
  obtain ⟨-, b, o, t, rfl, -⟩ := h.at (i := 0) rfl
  exact ⟨b, o, c, rfl⟩
theorem find_val : (max (1 : Int) 0 = 1) ∧ decide ((0 : Int) ≤ 1) = true := by decide
end Go.Proofs.YtfbobfejnbhjbaaDoor
