/-
  Through services and guaranteed changes in memory; Next of package through and of its reference; whether a list of ints holds an int, whether two lists of ints are the same, whether an int is an index, whether a trip has a frequency: what each call answers. Condition: lists of at most 1000000 elements.
-/
import Derived.Test.YtkballjadkhepaaTpS
import Derived.Test.YtkballjadkhepaaHzR
import Derived.Test.YtkballjadkhepaaThk
import Derived.Lib.Hide
namespace Go.Proofs.Ytkballjadkhepaa
open Go.RowKit

/-! ### Through services and guaranteed changes in memory -/
/-- A through service as cells. -/
def hh (x : Th) : List Value := [.int .i64 x.1, .int .i64 x.2]
theorem hh_len (x : Th) : (hh x).length = 2 := rfl
abbrev LstH := @LstG Th hh
/-- The two cells of a through service. -/
theorem two_hh {w : World} {A : Option Addr} {n c : Nat} {l : List Th} (h : LstH w (.slice A n c) l) {i : Nat} {a b : Int} (hs : l[i]? = some (a, b)) :
    ∃ k f, A = some ⟨k, f, none⟩ ∧ k < w.heap.size ∧ w.cell? ⟨k, f + i * 2, none⟩ = some (.int .i64 a) ∧ w.cell? ⟨k, f + i * 2 + 1, none⟩ = some (.int .i64 b) := by
  obtain ⟨A', c', hv, _, _, hx⟩ := h
  cases hv
  have hi := (List.getElem?_eq_some_iff.1 hs).1
  obtain ⟨k, f, rfl, hb, hcell⟩ := hx (by omega)
  exact ⟨k, f, rfl, hb, hcell (i * 2) _ (by rw [← Nat.add_zero (i * 2), fl_at hh_len hs 0 (by omega)]; rfl), (hcell (i * 2 + 1) _ (by rw [fl_at hh_len hs 1 (by omega)]; rfl) : _)⟩
/-- A through service in a box. -/
abbrev boxH (a b : Int) : Obj := .cells #[.int .i64 a, .int .i64 b] 54 (0, 0)
theorem row_hh {w : World} {k : Nat} {a b : Int} (h : w.heap[k]? = some (boxH a b)) : w.cell? ⟨k, 0, none⟩ = some (.int .i64 a) ∧ w.cell? ⟨k, 1, none⟩ = some (.int .i64 b) :=
  ⟨by rw [cell_of_row _ _ 0 _ _ _ h]; rfl, by rw [cell_of_row _ _ 1 _ _ _ h]; rfl⟩
theorem box_hh {w w7 : World} {a b : Int} (h : w.alloc (boxH a b) = w7) :
    Below w.heap.size w w7 ∧ w7.cell? ⟨w.heap.size, 0, none⟩ = some (.int .i64 a) ∧ w7.cell? ⟨w.heap.size, 1, none⟩ = some (.int .i64 b) ∧ w.heap.size < w7.heap.size ∧ w7.heap[w.heap.size]? = some (boxH a b) := by
  subst h
  have c7 := heap_alloc_new w (boxH a b)
  obtain ⟨h0, h1⟩ := row_hh c7
  exact ⟨(Below.refl _ _).alloc (Nat.le_refl _) _, h0, h1, by simp, c7⟩
/-- A guaranteed change as cells. -/
def gg (x : Gt) : List Value := [.int .i64 x.1, .int .i64 x.2.1, .int .i64 x.2.2]
theorem gg_len (x : Gt) : (gg x).length = 3 := rfl
abbrev LstU := @LstG Gt gg
theorem three_gg {w : World} {A : Option Addr} {n c : Nat} {l : List Gt} (h : LstU w (.slice A n c) l) {i : Nat} {a b s : Int} (hs : l[i]? = some (a, b, s)) :
    ∃ k f, A = some ⟨k, f, none⟩ ∧ k < w.heap.size ∧ w.cell? ⟨k, f + i * 3, none⟩ = some (.int .i64 a) ∧ w.cell? ⟨k, f + i * 3 + 1, none⟩ = some (.int .i64 b) ∧ w.cell? ⟨k, f + i * 3 + 2, none⟩ = some (.int .i64 s) := by
  obtain ⟨A', c', hv, _, _, hx⟩ := h
  cases hv
  have hi := (List.getElem?_eq_some_iff.1 hs).1
  obtain ⟨k, f, rfl, hb, hcell⟩ := hx (by omega)
  exact ⟨k, f, rfl, hb, hcell (i * 3) _ (by rw [← Nat.add_zero (i * 3), fl_at gg_len hs 0 (by omega)]; rfl), (hcell (i * 3 + 1) _ (by rw [fl_at gg_len hs 1 (by omega)]; rfl) : _), (hcell (i * 3 + 2) _ (by rw [fl_at gg_len hs 2 (by omega)]; rfl) : _)⟩
/-- A guaranteed change in a box. -/
abbrev boxU (a b s : Int) : Obj := .cells #[.int .i64 a, .int .i64 b, .int .i64 s] 62 (0, 0)
theorem row_gg {w : World} {k : Nat} {a b s : Int} (h : w.heap[k]? = some (boxU a b s)) : w.cell? ⟨k, 0, none⟩ = some (.int .i64 a) ∧ w.cell? ⟨k, 1, none⟩ = some (.int .i64 b) ∧ w.cell? ⟨k, 2, none⟩ = some (.int .i64 s) :=
  ⟨by rw [cell_of_row _ _ 0 _ _ _ h]; rfl, by rw [cell_of_row _ _ 1 _ _ _ h]; rfl, by rw [cell_of_row _ _ 2 _ _ _ h]; rfl⟩
theorem box_gg {w w7 : World} {a b s : Int} (h : w.alloc (boxU a b s) = w7) :
    Below w.heap.size w w7 ∧ w7.cell? ⟨w.heap.size, 0, none⟩ = some (.int .i64 a) ∧ w7.cell? ⟨w.heap.size, 1, none⟩ = some (.int .i64 b) ∧ w7.cell? ⟨w.heap.size, 2, none⟩ = some (.int .i64 s) ∧ w.heap.size < w7.heap.size ∧ w7.heap[w.heap.size]? = some (boxU a b s) := by
  subst h
  have c7 := heap_alloc_new w (boxU a b s)
  obtain ⟨h0, h1, h2⟩ := row_gg c7
  exact ⟨(Below.refl _ _).alloc (Nat.le_refl _) _, h0, h1, h2, by simp, c7⟩
/-- The cell of an element of a list of ints. -/
theorem int_cell {w : World} {A : Option Addr} {n c : Nat} {l : List Int} (h : LstI w (.slice A n c) l) {i : Nat} {x : Int} (hs : l[i]? = some x) : ∃ b o, A = some ⟨b, o, none⟩ ∧ b < w.heap.size ∧ w.cell? ⟨b, o + i, none⟩ = some (.int .i64 x) := by
  obtain ⟨A', c', hv, _, _, hx⟩ := h
  cases hv
  have hi := (List.getElem?_eq_some_iff.1 hs).1
  obtain ⟨b, o, rfl, hb, hcell⟩ := hx (by omega)
  exact ⟨b, o, rfl, hb, hcell i _ (ints_at l i x hs)⟩

/-! ### Next -/
theorem ret_nx {q : Option Int} {x : Int} (h : q = some x) : Ending.returned (.tuple #[.int .i64 x, .bool true]) = .returned (.tuple #[.int .i64 (q.getD 0), .bool q.isSome]) := by rw [h]; rfl
theorem ret_nx0 {q : Option Int} (h : q = none) : Ending.returned (.tuple #[.int .i64 0, .bool false]) = .returned (.tuple #[.int .i64 (q.getD 0), .bool q.isSome]) := by rw [h]; rfl
set_option maxRecDepth 100000 in
set_option maxHeartbeats 4000000 in
theorem knx_any (vl : Value) (l : List Th) (hl : l.length ≤ 1000000) (t : Int) (w : World) (h : LstH w vl l) : Calls Try.prog 17 #[vl, .int .i64 t] w fun e w' => e = .returned (.tuple #[.int .i64 (nxV t l), .bool (nxB t l)]) ∧ Below w.heap.size w w' := by
  have H := Lib.hid h
  obtain ⟨A, n, rfl, -, -, -⟩ := h
  unfold nxV nxB
  obtain ⟨q, hq⟩ : ∃ q, nxT t l = q := ⟨_, rfl⟩
  rw [hq]
  have HR := Lib.hid hq
  clear hq
  go_enter Try.func17, Try.ntmps17
  go_wp2_with fail
  go_loopw [10] (fun i wr => ∃ k : Nat, i = .int .i64 k ∧ k ≤ l.length ∧ Hid (q = nxT t (l.drop k)) ∧ Hid (Below w.heap.size w wr)) (fun i _ => l.length - (intOf i).toNat)
  case atStart => exact ⟨0, rfl, Nat.zero_le _, Lib.hid (by rw [← HR.out]; rfl), Lib.hid (Below.refl _ _)⟩
  case round =>
    obtain ⟨k, rfl, hk, hz, HB⟩ := hrel
    by_cases hlt : k < l.length
    · obtain ⟨⟨a, b⟩, hf⟩ := at_lt hlt
      obtain ⟨c, o, rfl, hc, m0, m1⟩ := two_hh (H.out.below HB.out) hf
      obtain ⟨w7, hw7⟩ : ∃ W, wr.alloc (boxH a b) = W := ⟨_, rfl⟩
      obtain ⟨b7, p0, p1, s7, -⟩ := box_hh hw7
      have gk : (k : Int) < (l.length : Int) := by omega
      have B7 : Hid (Below w.heap.size w w7) := HB.out.trans (b7.mono HB.out.size)
      clear b7 s7 HB
      by_cases ht : a = t
      · have g := beq_true ht
        have R := Lib.hid (nx_hit hz.out hf ht)
        clear hz hf hc ht HR
        go_wp2_with fail
        go_ret2
        exact ⟨ret_nx R.out, B7.out⟩
      · have g := beq_false ht
        have N := Lib.hid (nx_miss hz.out hf ht)
        clear hz hf hc ht
        go_wp2_with fail
        go_roundw
        case rel => exact ⟨k + 1, by go_num, by omega, N, B7⟩
        case measure => simp [intOf]; omega
    · have R := Lib.hid (nx_end hz.out (by omega))
      have d : decide (k < l.length) = false := by rw [decide_eq_false_iff_not]; exact hlt
      clear hz hlt HR
      go_wp2_with fail
      go_ret2
      exact ⟨ret_nx0 R.out, HB.out⟩
set_option maxRecDepth 100000 in
set_option maxHeartbeats 4000000 in
theorem rnx_any (vl : Value) (l : List Th) (hl : l.length ≤ 1000000) (t : Int) (w : World) (h : LstH w vl l) : Calls Try.prog 18 #[vl, .int .i64 t] w fun e w' => e = .returned (.tuple #[.int .i64 (nxV t l), .bool (nxB t l)]) ∧ w = w' := by
  have H := Lib.hid h
  obtain ⟨A, n, rfl, -, -, -⟩ := h
  unfold nxV nxB
  obtain ⟨q, hq⟩ : ∃ q, nxT t l = q := ⟨_, rfl⟩
  rw [hq]
  have HR := Lib.hid hq
  clear hq
  go_enter Try.func18, Try.ntmps18
  go_wp2_with fail
  go_loop [6] (fun i => ∃ k : Nat, i = .int .i64 k ∧ k ≤ l.length ∧ Hid (q = nxT t (l.drop k))) (fun i => l.length - (intOf i).toNat)
  case atStart => exact ⟨0, rfl, Nat.zero_le _, Lib.hid (by rw [← HR.out]; rfl)⟩
  case round =>
    obtain ⟨k, rfl, hk, hz⟩ := hrel
    by_cases hlt : k < l.length
    · obtain ⟨⟨a, b⟩, hf⟩ := at_lt hlt
      obtain ⟨c, o, rfl, hc, m0, m1⟩ := two_hh H.out hf
      have gk : (k : Int) < (l.length : Int) := by omega
      by_cases ht : a = t
      · have g := beq_true ht
        have R := Lib.hid (nx_hit hz.out hf ht)
        clear hz hf hc ht HR
        go_wp2_with fail
        go_ret2
        exact ⟨ret_nx R.out, rfl⟩
      · have g := beq_false ht
        have N := Lib.hid (nx_miss hz.out hf ht)
        clear hz hf hc ht
        go_wp2_with fail
        go_round
        case rel => exact ⟨k + 1, by go_num, by omega, N⟩
        case measure => simp [intOf]; omega
    · have R := Lib.hid (nx_end hz.out (by omega))
      have d : decide (k < l.length) = false := by rw [decide_eq_false_iff_not]; exact hlt
      clear hz hlt HR
      go_wp2_with fail
      go_ret2
      exact ⟨ret_nx0 R.out, rfl⟩

/-! ### Whether a list holds an int -/
theorem any_mem (x : Int) (l : List Int) : (l.any fun y => decide (x = y)) = decide (x ∈ l) := by
  rw [Bool.eq_iff_iff, List.any_eq_true, decide_eq_true_iff]
  constructor
  · rintro ⟨y, hy, h⟩
    rw [of_decide_eq_true h]
    exact hy
  · exact fun h => ⟨x, h, decide_eq_true rfl⟩
set_option maxHeartbeats 1000000 in
theorem kix_any (vl : Value) (l : List Int) (hl : l.length ≤ 1000000) (x : Int) (w : World) (h : LstI w vl l) : Calls Try.prog 35 #[vl, .int .i64 x] w fun e w' => e = .returned (.int .i64 (fdT (fun y => decide (x = y)) l)) ∧ w = w' := by
  have H := Lib.hid h
  obtain ⟨A, n, rfl, -, -, -⟩ := h
  obtain ⟨q, hq⟩ : ∃ q, fdT (fun y => decide (x = y)) l = q := ⟨_, rfl⟩
  rw [hq]
  have HR := Lib.hid hq
  clear hq
  go_enter Try.func35, Try.ntmps35
  go_wp2_with fail
  go_loop [8] (fun i => ∃ k : Nat, i = .int .i64 k ∧ k ≤ l.length ∧ Hid (q = fdF (fun y => decide (x = y)) k (l.drop k))) (fun i => l.length - (intOf i).toNat)
  case atStart => exact ⟨0, rfl, Nat.zero_le _, Lib.hid (by rw [← HR.out]; rfl)⟩
  case round =>
    obtain ⟨k, rfl, hk, hz⟩ := hrel
    by_cases hlt : k < l.length
    · obtain ⟨a, hf⟩ := at_lt hlt
      obtain ⟨c, o, rfl, hc, m0⟩ := int_cell H.out hf
      have gk : (k : Int) < (l.length : Int) := by omega
      by_cases ht : x = a
      · have g := beq_true ht
        have R := Lib.hid (fd_hit hz.out hf (decide_eq_true ht))
        clear hz hf hc ht HR
        go_wp2_with fail
        go_ret
        exact ⟨ret_int R.out.symm, rfl⟩
      · have g := beq_false ht
        have N := Lib.hid (fd_miss hz.out hf (decide_eq_false ht))
        clear hz hf hc ht
        go_wp2_with fail
        go_round
        case rel => exact ⟨k + 1, by go_num, by omega, N⟩
        case measure => simp [intOf]; omega
    · have R := Lib.hid (fd_end hz.out (by omega))
      have d : decide (k < l.length) = false := by rw [decide_eq_false_iff_not]; exact hlt
      clear hz hlt HR
      go_wp2_with fail
      go_ret
      exact ⟨ret_int R.out.symm, rfl⟩
set_option maxHeartbeats 1000000 in
theorem kin_any (vl : Value) (l : List Int) (hl : l.length ≤ 1000000) (x : Int) (w : World) (h : LstI w vl l) : Calls Try.prog 27 #[vl, .int .i64 x] w fun e w' => e = .returned (.bool (decide (x ∈ l))) ∧ w = w' := by
  have C := Lib.hid (kix_any vl l hl x w h)
  have R := Lib.hid ((any_fd (fun y => decide (x = y)) l).trans (any_mem x l))
  generalize fdT (fun y => decide (x = y)) l = q at C R
  obtain ⟨A, n, rfl, -, -, -⟩ := h
  go_enter Try.func27, Try.ntmps27
  go_wp2_with fail
  refine C.out.mono ?_
  rintro e w' ⟨rfl, rfl⟩
  clear C
  go_wp2_with fail
  go_ret
  exact ⟨ret_bool R.out, rfl⟩
theorem mem_at {l : List Int} {k : Nat} {x : Int} (h : l[k]? = some x) : x ∈ l := List.mem_iff_getElem?.2 ⟨k, h⟩
set_option maxHeartbeats 1000000 in
theorem rhas_any (vl : Value) (l : List Int) (hl : l.length ≤ 1000000) (x : Int) (w : World) (h : LstI w vl l) : Calls Try.prog 24 #[vl, .int .i64 x] w fun e w' => e = .returned (.bool (decide (x ∈ l))) ∧ w = w' := by
  have H := Lib.hid h
  obtain ⟨A, n, rfl, -, -, -⟩ := h
  obtain ⟨q, hq⟩ : ∃ q, decide (x ∈ l) = q := ⟨_, rfl⟩
  rw [hq]
  have HR := Lib.hid hq
  clear hq
  go_enter Try.func24, Try.ntmps24
  go_wp2_with fail
  go_loop [5] (fun i => ∃ k : Nat, i = .int .i64 k ∧ k ≤ l.length ∧ Hid (∀ (j : Nat) y, j < k → l[j]? = some y → y ≠ x)) (fun i => l.length - (intOf i).toNat)
  case atStart => exact ⟨0, rfl, Nat.zero_le _, Lib.hid (fun j y hj => absurd hj (Nat.not_lt_zero _))⟩
  case round =>
    obtain ⟨k, rfl, hk, hall⟩ := hrel
    by_cases hlt : k < l.length
    · obtain ⟨a, hf⟩ := at_lt hlt
      obtain ⟨c, o, rfl, hc, m0⟩ := int_cell H.out hf
      have gk : (k : Int) < (l.length : Int) := by omega
      by_cases ht : a = x
      · have g := beq_true ht
        have R := Lib.hid (decide_eq_true (show x ∈ l by rw [← ht]; exact mem_at hf))
        clear hall hf hc ht
        go_wp2_with fail
        go_ret
        exact ⟨ret_bool (by rw [← HR.out, R.out]), rfl⟩
      · have g := beq_false ht
        have N : Hid (∀ (j : Nat) y, j < k + 1 → l[j]? = some y → y ≠ x) := by
          intro j z hj hz
          by_cases hjk : j < k
          · exact hall.out j z hjk hz
          · obtain rfl : j = k := by omega
            rw [hf] at hz
            obtain rfl := Option.some.inj hz
            exact ht
        clear hall hf hc ht
        go_wp2_with fail
        go_round
        case rel => exact ⟨k + 1, by go_num, by omega, N⟩
        case measure => simp [intOf]; omega
    · have R := Lib.hid (decide_eq_false (p := x ∈ l) (fun hm => by
        obtain ⟨j, hj⟩ := List.mem_iff_getElem?.1 hm
        exact hall.out j x (by have := (List.getElem?_eq_some_iff.1 hj).1; omega) hj rfl))
      have d : decide (k < l.length) = false := by rw [decide_eq_false_iff_not]; exact hlt
      clear hall hlt
      go_wp2_with fail
      go_ret
      exact ⟨ret_bool (by rw [← HR.out, R.out]), rfl⟩
set_option maxHeartbeats 1000000 in
theorem same_any (u v : Value) (a b : List Int) (ha : a.length ≤ 1099511627776) (w : World) (h1 : LstI w u a) (h2 : LstI w v b) : Calls Try.prog 19 #[u, v] w fun e w' => e = .returned (.bool (decide (a = b))) ∧ ∃ m, w' = w.drewN m := by
  obtain ⟨A, c, rfl, _, _, hx⟩ := h1
  obtain ⟨B, d, rfl, _, _, hy⟩ := h2
  obtain ⟨r, hr⟩ : ∃ r, decide (a = b) = r := ⟨_, rfl⟩
  rw [hr]
  have HR := Lib.hid hr
  clear hr
  by_cases hl : a.length = b.length
  · have g : ((a.length : Int) != (b.length : Int)) = false := neq_false (by omega)
    have g' : (a.length != b.length) = false := by rw [hl]; simp
    have HX := Lib.hid hx
    have HY := Lib.hid hy
    have HL := Lib.hid hl
    clear hx hy hl
    go_enter Try.func19, Try.ntmps19
    go_wp2_with fail
    go_loopw [5] (fun i wr => ∃ k : Nat, i = .int .i64 k ∧ k ≤ a.length ∧ Hid (∀ (j : Nat) x, j < k → a[j]? = some x → b[j]? = some x) ∧ Hid (∃ n, wr = w.drewN n)) (fun i _ => a.length - (intOf i).toNat)
    case atStart => exact ⟨0, rfl, Nat.zero_le _, Lib.hid (fun j x hj => absurd hj (Nat.not_lt_zero _)), Lib.hid ⟨0, rfl⟩⟩
    case round =>
      clear g g'
      obtain ⟨k, rfl, hk, hall, hn⟩ := hrel
      by_cases hlt : k < a.length
      · obtain ⟨b1, o1, rfl, hb1, hc1⟩ := HX.out (by omega)
        obtain ⟨b2, o2, rfl, hb2, hc2⟩ := HY.out (by have := HL.out; omega)
        obtain ⟨x, hx⟩ := at_lt hlt
        obtain ⟨y, hy⟩ := at_lt (l := b) (k := k) (by have := HL.out; omega)
        have hbw := drew_below hn.out
        have m1 := (hbw.cell (p := ⟨b1, o1 + k, none⟩) hb1).trans (hc1 k _ (ints_at a k x hx))
        have m2 := (hbw.cell (p := ⟨b2, o2 + k, none⟩) hb2).trans (hc2 k _ (ints_at b k y hy))
        have gk : (k : Int) < (a.length : Int) := by omega
        have gk2 : (k : Int) < (b.length : Int) := by have := HL.out; omega
        clear hc1 hc2 hbw
        by_cases hxy : x = y
        · have ne : (x != y) = false := neq_false hxy
          have hall2 : Hid (∀ (j : Nat) z, j < k + 1 → a[j]? = some z → b[j]? = some z) := by
            intro j z hj hz
            by_cases hjk : j < k
            · exact hall.out j z hjk hz
            · obtain rfl : j = k := by omega
              rw [hx] at hz
              rw [hy, ← hxy]
              exact hz
          clear hx hy hxy hall HX HY
          go_wp2_with fail
          go_quiet (fail)
          go_wp2_with fail
          go_roundw
          case rel => exact ⟨k + 1, by go_num, by omega, hall2, drew_on hn nq⟩
          case measure => simp [intOf]; omega
        · have ne : (x != y) = true := bne_true hxy
          have R := Lib.hid (same_at k x y hx hy hxy)
          clear hx hy hxy hall HX HY
          go_wp2_with fail
          go_quiet (fail)
          go_wp2_with fail
          go_ret
          exact ⟨ret_bool (by rw [← HR.out, R.out]), (drew_on hn nq).out⟩
      · have R := Lib.hid (same_of HL.out (fun j x hj => hall.out j x (by omega)))
        have d : decide (k < a.length) = false := by rw [decide_eq_false_iff_not]; exact hlt
        clear hall hlt HX HY
        go_wp2_with fail
        go_ret
        exact ⟨ret_bool (by rw [← HR.out, R.out]), hn.out⟩
  · have g : ((a.length : Int) != (b.length : Int)) = true := bne_true (by omega)
    have g' : (a.length != b.length) = true := by simpa using hl
    have R : Hid (r = false) := by
      show _ = _
      rw [← HR.out, decide_eq_false_iff_not]
      exact fun e => hl (by rw [e])
    clear hx hy hl
    go_enter Try.func19, Try.ntmps19
    go_wp2_with fail
    go_ret
    exact ⟨ret_bool R.out.symm, 0, rfl⟩

/-! ### Whether an int is an index, whether a trip has a frequency -/
theorem kisx_yes (i n : Int) (h : 0 ≤ i ∧ i < n) (w : World) : Calls Try.prog 29 #[.int .i64 i, .int .i64 n] w fun e w' => e = .returned (.bool true) ∧ w = w' := by
  obtain ⟨h0, h1⟩ := h
  go_enter Try.func29, Try.ntmps29
  go_wp2_with fail
  go_ret
  exact ⟨rfl, rfl⟩
theorem kisx_no (i n : Int) (h : ¬ (0 ≤ i ∧ i < n)) (w : World) : Calls Try.prog 29 #[.int .i64 i, .int .i64 n] w fun e w' => e = .returned (.bool false) ∧ w = w' := by
  by_cases h0 : 0 ≤ i
  · have d : decide (i < n) = false := decide_eq_false (fun h1 => h ⟨h0, h1⟩)
    clear h
    go_enter Try.func29, Try.ntmps29
    go_wp2_with fail
    go_ret
    exact ⟨rfl, rfl⟩
  · have d : decide (0 ≤ i) = false := decide_eq_false h0
    clear h h0
    go_enter Try.func29, Try.ntmps29
    go_wp2_with fail
    go_ret
    exact ⟨rfl, rfl⟩
theorem risx_yes (i n : Int) (h : 0 ≤ i ∧ i < n) (w : World) : Calls Try.prog 36 #[.int .i64 i, .int .i64 n] w fun e w' => e = .returned (.bool true) ∧ w = w' := by
  obtain ⟨h0, h1⟩ := h
  go_enter Try.func36, Try.ntmps36
  go_wp2_with fail
  go_ret
  exact ⟨rfl, rfl⟩
theorem risx_no (i n : Int) (h : ¬ (0 ≤ i ∧ i < n)) (w : World) : Calls Try.prog 36 #[.int .i64 i, .int .i64 n] w fun e w' => e = .returned (.bool false) ∧ w = w' := by
  by_cases h0 : 0 ≤ i
  · have d : decide (i < n) = false := decide_eq_false (fun h1 => h ⟨h0, h1⟩)
    clear h
    go_enter Try.func36, Try.ntmps36
    go_wp2_with fail
    go_ret
    exact ⟨rfl, rfl⟩
  · have d : decide (0 ≤ i) = false := decide_eq_false h0
    clear h h0
    go_enter Try.func36, Try.ntmps36
    go_wp2_with fail
    go_ret
    exact ⟨rfl, rfl⟩
theorem isx_dec (i n : Int) (w : World) : Calls Try.prog 29 #[.int .i64 i, .int .i64 n] w fun e w' => e = .returned (.bool (decide (0 ≤ i ∧ i < n))) ∧ w = w' := by
  by_cases h : 0 ≤ i ∧ i < n
  · rw [decide_eq_true h]; exact kisx_yes i n h w
  · rw [decide_eq_false h]; exact kisx_no i n h w
theorem rsx_dec (i n : Int) (w : World) : Calls Try.prog 36 #[.int .i64 i, .int .i64 n] w fun e w' => e = .returned (.bool (decide (0 ≤ i ∧ i < n))) ∧ w = w' := by
  by_cases h : 0 ≤ i ∧ i < n
  · rw [decide_eq_true h]; exact risx_yes i n h w
  · rw [decide_eq_false h]; exact risx_no i n h w
set_option maxHeartbeats 1000000 in
theorem rrep_any (vl : Value) (l : List Fq) (hl : l.length ≤ 1000) (tr : Int) (w : World) (h : LstF w vl l) : Calls Try.prog 37 #[vl, .int .i64 tr] w fun e w' => e = .returned (.bool (repF tr l)) ∧ w = w' := by
  have H := Lib.hid h
  obtain ⟨A, n, rfl, -, -, -⟩ := h
  obtain ⟨q, hq⟩ : ∃ q, repF tr l = q := ⟨_, rfl⟩
  rw [hq]
  have HR := Lib.hid hq
  clear hq
  go_enter Try.func37, Try.ntmps37
  go_wp2_with fail
  go_loop [5] (fun i => ∃ k : Nat, i = .int .i64 k ∧ k ≤ l.length ∧ Hid (∀ (j : Nat) f, j < k → l[j]? = some f → f.1 ≠ tr)) (fun i => l.length - (intOf i).toNat)
  case atStart => exact ⟨0, rfl, Nat.zero_le _, Lib.hid (fun j f hj => absurd hj (Nat.not_lt_zero _))⟩
  case round =>
    obtain ⟨k, rfl, hk, hall⟩ := hrel
    by_cases hlt : k < l.length
    · obtain ⟨⟨t, a, b, v⟩, hf⟩ := at_lt hlt
      obtain ⟨c, o, rfl, hc, m0, m1, m2, m3⟩ := four_at H.out hf
      have gk : (k : Int) < (l.length : Int) := by omega
      by_cases ht : t = tr
      · have g := beq_true ht
        have R := Lib.hid (rep_hit (t := tr) hf ht)
        clear hall hf hc ht
        go_wp2_with fail
        go_ret
        exact ⟨ret_bool (by rw [← HR.out, R.out]), rfl⟩
      · have g := beq_false ht
        have N : Hid (∀ (j : Nat) f, j < k + 1 → l[j]? = some f → f.1 ≠ tr) := by
          intro j z hj hz
          by_cases hjk : j < k
          · exact hall.out j z hjk hz
          · obtain rfl : j = k := by omega
            rw [hf] at hz
            obtain rfl := Option.some.inj hz
            exact ht
        clear hall hf hc ht
        go_wp2_with fail
        go_round
        case rel => exact ⟨k + 1, by go_num, by omega, N⟩
        case measure => simp [intOf]; omega
    · have R := Lib.hid (rep_no (t := tr) (l := l) (fun j f hj => hall.out j f (by have := (List.getElem?_eq_some_iff.1 hj).1; omega) hj))
      have d : decide (k < l.length) = false := by rw [decide_eq_false_iff_not]; exact hlt
      clear hall hlt
      go_wp2_with fail
      go_ret
      exact ⟨ret_bool (by rw [← HR.out, R.out]), rfl⟩
end Go.Proofs.Ytkballjadkhepaa
