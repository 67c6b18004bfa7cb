/-
  The laws' helpers named, small, same and example: what each call answers; nothing that existed before the call has changed behind it. Condition: none beyond lengths of 63 bits.
-/
import Derived.Test.YtlbockpaeacigaaYRsn
namespace Go.Proofs.Ytlbockpaeacigaa
open Go.RowKit

set_option maxHeartbeats 1000000 in
theorem same_any (u v : Value) (a b : List Int) (ha : a.length ≤ 1099511627776) (w : World) (h1 : LstI w u a) (h2 : LstI w v b) : Calls Try.prog 22 #[u, v] w fun e w' => e = .returned (.bool (decide (a = b))) ∧ ∃ m, w' = w.drewN m := by
  obtain ⟨A, c, rfl, _, _, hx⟩ := h1
  obtain ⟨B, d, rfl, _, _, hy⟩ := h2
  obtain ⟨r, hr⟩ : ∃ r, decide (a = b) = r := ⟨_, rfl⟩
  rw [hr]
  have HR := Lib.hid hr
  clear hr
  by_cases hl : a.length = b.length
  · have g : ((a.length : Int) != (b.length : Int)) = false := neq_false (by omega)
    have g' : (a.length != b.length) = false := by rw [hl]; simp
    have HX := Lib.hid hx
    have HY := Lib.hid hy
    have HL := Lib.hid hl
    clear hx hy hl
    go_enter Try.func22, Try.ntmps22
    go_wp2_with fail
    go_loopw [5] (fun i wr => ∃ k : Nat, i = .int .i64 k ∧ k ≤ a.length ∧ Hid (∀ (j : Nat) x, j < k → a[j]? = some x → b[j]? = some x) ∧ Hid (∃ n, wr = w.drewN n)) (fun i _ => a.length - (intOf i).toNat)
    case atStart => exact ⟨0, rfl, Nat.zero_le _, Lib.hid (fun j x hj => absurd hj (Nat.not_lt_zero _)), Lib.hid ⟨0, rfl⟩⟩
    case round =>
      clear g g'
      obtain ⟨k, rfl, hk, hall, hn⟩ := hrel
      by_cases hlt : k < a.length
      · obtain ⟨b1, o1, rfl, hb1, hc1⟩ := HX.out (by omega)
        obtain ⟨b2, o2, rfl, hb2, hc2⟩ := HY.out (by have := HL.out; omega)
        obtain ⟨x, hx⟩ := at_lt hlt
        obtain ⟨y, hy⟩ := at_lt (l := b) (k := k) (by have := HL.out; omega)
        have hbw := drew_below hn.out
        have m1 := (hbw.cell (p := ⟨b1, o1 + k, none⟩) hb1).trans (hc1 k _ (ints_at a k x hx))
        have m2 := (hbw.cell (p := ⟨b2, o2 + k, none⟩) hb2).trans (hc2 k _ (ints_at b k y hy))
        have gk : (k : Int) < (a.length : Int) := by omega
        have gk2 : (k : Int) < (b.length : Int) := by have := HL.out; omega
        clear hc1 hc2 hbw
        by_cases hxy : x = y
        · have ne : (x != y) = false := neq_false hxy
          have hall2 : Hid (∀ (j : Nat) z, j < k + 1 → a[j]? = some z → b[j]? = some z) := by
            intro j z hj hz
            by_cases hjk : j < k
            · exact hall.out j z hjk hz
            · obtain rfl : j = k := by omega
              rw [hx] at hz
              rw [hy, ← hxy]
              exact hz
          clear hx hy hxy hall HX HY
          go_wp2_with fail
          go_quiet (fail)
          go_wp2_with fail
          go_roundw
          case rel => exact ⟨k + 1, by go_num, by omega, hall2, drew_on hn nq⟩
          case measure => simp [intOf]; omega
        · have ne : (x != y) = true := bne_true hxy
          have R := Lib.hid (same_at k x y hx hy hxy)
          clear hx hy hxy hall HX HY
          go_wp2_with fail
          go_quiet (fail)
          go_wp2_with fail
          go_ret
          exact ⟨ret_bool (by rw [← HR.out, R.out]), (drew_on hn nq).out⟩
      · have R := Lib.hid (same_of HL.out (fun j x hj => hall.out j x (by omega)))
        have d : decide (k < a.length) = false := by rw [decide_eq_false_iff_not]; exact hlt
        clear hall hlt HX HY
        go_wp2_with fail
        go_ret
        exact ⟨ret_bool (by rw [← HR.out, R.out]), hn.out⟩
  · have g : ((a.length : Int) != (b.length : Int)) = true := bne_true (by omega)
    have g' : (a.length != b.length) = true := by simpa using hl
    have R : Hid (r = false) := by
      show _ = _
      rw [← HR.out, decide_eq_false_iff_not]
      exact fun e => hl (by rw [e])
    clear hx hy hl
    go_enter Try.func22, Try.ntmps22
    go_wp2_with fail
    go_ret
    exact ⟨ret_bool R.out.symm, 0, rfl⟩
set_option maxRecDepth 100000 in
set_option maxHeartbeats 4000000 in
theorem named_any (v : Value) (l : List Cl) (hl : l.length ≤ 9223372036854775807) (w : World) (h : LstC w v l) : Calls Try.prog 11 #[v] w fun e w' => e = .returned (.bool (namB l)) ∧ w = w' := by
  have H := Lib.hid h
  obtain ⟨A, c, rfl, -, -, -⟩ := h
  by_cases h2 : 70 < l.length
  · have R := Lib.hid (namB_many h2)
    have g : (70 : Int) < (l.length : Int) := by omega
    generalize namB l = q at R ⊢
    clear h2
    go_enter Try.func11, Try.ntmps11
    go_wp2_with fail
    go_ret
    exact ⟨ret_bool R.out.symm, rfl⟩
  have g : decide ((70 : Int) < (l.length : Int)) = false := by rw [decide_eq_false_iff_not]; omega
  have hl2 : l.length ≤ 70 := by omega
  obtain ⟨q, hq⟩ : ∃ q, namB l = q := ⟨_, rfl⟩
  rw [hq]
  have HQ := Lib.hid hq
  clear h2 hq
  go_enter Try.func11, Try.ntmps11
  go_wp2_with fail
  go_loop [3] (fun i => ∃ k : Nat, i = .int .i64 k ∧ k ≤ l.length ∧ Hid (∀ (j : Nat) x, j < k → l[j]? = some x → x.1.length ≤ 1024)) (fun i => l.length - (intOf i).toNat)
  case atStart => exact ⟨0, rfl, Nat.zero_le _, Lib.hid (fun j x hj => absurd hj (Nat.not_lt_zero _))⟩
  case round =>
    clear g
    obtain ⟨k, rfl, hk, hz⟩ := hrel
    by_cases hlt : k < l.length
    · obtain ⟨⟨id, kw, f, t⟩, hx⟩ := at_lt hlt
      obtain ⟨nm, hnm⟩ : ∃ nm, str id = nm := ⟨_, rfl⟩
      obtain ⟨b, o, rfl, hb, r0, -, -, -⟩ := ten_at H.out hx hnm
      have gk : (k : Int) < (l.length : Int) := by omega
      have hns : nm.size = id.length := by rw [← hnm, size_str]
      by_cases h5 : 1024 < id.length
      · have R := Lib.hid (namB_long hx h5)
        have g : (1024 : Int) < (nm.size : Int) := by omega
        clear hx hz hnm hb hns h5
        go_wp2_with fail
        go_ret
        exact ⟨ret_bool (by rw [← HQ.out, R.out]), rfl⟩
      · have g : decide ((1024 : Int) < (nm.size : Int)) = false := by rw [decide_eq_false_iff_not]; omega
        have N : Hid (∀ (j : Nat) x, j < k + 1 → l[j]? = some x → x.1.length ≤ 1024) := by
          intro j x hj h
          by_cases e : j = k
          · subst e
            rw [hx] at h
            obtain rfl := Option.some.inj h
            exact Nat.le_of_not_lt h5
          · exact hz.out j x (by omega) h
        clear hx hz hnm hb hns h5
        go_wp2_with fail
        go_round
        case rel => exact ⟨k + 1, by go_num, by omega, N⟩
        case measure => simp [intOf]; omega
    · have R := Lib.hid (namB_of hl2 (fun j x h => hz.out j x (by have := (List.getElem?_eq_some_iff.1 h).1; omega) h))
      have d : decide (k < l.length) = false := by rw [decide_eq_false_iff_not]; exact hlt
      clear hz hlt
      go_wp2_with fail
      go_ret
      exact ⟨ret_bool (by rw [← HQ.out, R.out]), rfl⟩
/-- A service in a box. -/
theorem box_sv {w w7 : World} {a b : Value} (h : w.alloc (.cells #[a, b] 35 (0, 0)) = w7) :
    Below w.heap.size w w7 ∧ w7.cell? ⟨w.heap.size, 0, none⟩ = some a ∧ w7.cell? ⟨w.heap.size, 1, none⟩ = some b ∧ w.heap.size < w7.heap.size := by
  subst h
  have c7 := heap_alloc_new w (.cells #[a, b] 35 (0, 0))
  exact ⟨(Below.refl _ _).alloc (Nat.le_refl _) _, by rw [cell_of_row _ _ 0 _ _ _ c7]; rfl, by rw [cell_of_row _ _ 1 _ _ _ c7]; rfl, by simp⟩
set_option maxRecDepth 100000 in
set_option maxHeartbeats 4000000 in
theorem small_any (lv xv : Value) (l : List Cl) (x : List Ex) (w : World) (h1 : LstC w lv l) (h2 : LstX w xv x) : Calls Try.prog 17 #[.agg #[lv, xv]] w fun e w' => e = .returned (.bool (smlB l x)) ∧ Below w.heap.size w w' := by
  obtain ⟨w7, hw7⟩ : ∃ W, w.alloc (.cells #[lv, xv] 35 (0, 0)) = W := ⟨_, rfl⟩
  obtain ⟨b7, p0, p1, -⟩ := box_sv hw7
  have B7 := Lib.hid b7
  clear b7
  obtain ⟨A, c, rfl, -, -, -⟩ := h1
  obtain ⟨B, d, rfl, -, -, -⟩ := h2
  unfold smlB
  by_cases e1 : l.length ≤ 8
  · have g1 : (l.length : Int) ≤ 8 := by omega
    rw [decide_eq_true e1, Bool.true_and]
    by_cases e2 : x.length ≤ 20
    · have g2 : (x.length : Int) ≤ 20 := by omega
      rw [decide_eq_true e2]
      clear e1 e2
      go_enter Try.func17, Try.ntmps17
      go_wp2_with fail
      go_ret
      exact ⟨rfl, B7.out⟩
    · have g2 : decide ((x.length : Int) ≤ 20) = false := by rw [decide_eq_false_iff_not]; omega
      rw [decide_eq_false e2]
      clear e1 e2
      go_enter Try.func17, Try.ntmps17
      go_wp2_with fail
      go_ret
      exact ⟨rfl, B7.out⟩
  · have g1 : decide ((l.length : Int) ≤ 8) = false := by rw [decide_eq_false_iff_not]; omega
    rw [decide_eq_false e1, Bool.false_and]
    clear e1
    go_enter Try.func17, Try.ntmps17
    go_wp2_with fail
    go_ret
    exact ⟨rfl, B7.out⟩

theorem litG_at {α : Type} {enc : α → List Value} (w : World) (cs : Array Value) (T : TypeId) (ls : List α) (h : cs.toList = fl enc ls) (n : Nat) (hn : ls.length = n) (B : Nat) (hB : w.heap.size = B) : LstG enc (w.alloc (.cells cs T (0, 0))) (.slice (some ⟨B, 0, none⟩) n n) ls := by
  subst hB
  exact lstG_lit w cs T ls h n hn

/-! ### The example -/
/-- The calendar of the example. -/
def exC : Cl := ([119, 111, 114, 107], fun i => decide (i < 5), 0, 13)
def exX : List Ex := [(0, 2, false), (0, 7, true)]
/-- The calendar's cells when k days of its week are laid. -/
def exRow (s : ByteArray) (k : Nat) : Array Value := #[.string s, .bool (decide (0 < k)), .bool (decide (1 < k)), .bool (decide (2 < k)), .bool (decide (3 < k)), .bool (decide (4 < k)), .bool false, .bool false, .int .i64 0, .int .i64 13]
theorem exRow_next {w : World} {s : ByteArray} {B k : Nat} {T : TypeId} (hk : k < 5) (h : w.heap[B]? = some (.cells (exRow s k) T (0, 0))) :
    w.cell? ⟨B, 1 + k, none⟩ = some (.bool false) ∧ w.frozen? ⟨B, 1 + k, none⟩ = false ∧ (w.setCell ⟨B, 1 + k, none⟩ (.bool true)).heap[B]? = some (.cells (exRow s (k + 1)) T (0, 0)) := by
  refine ⟨?_, frozen_of_row _ _ _ _ _ h, ?_⟩
  · rw [cell_of_row _ _ (1 + k) _ _ _ h]
    match k, hk with
    | 0, _ => rfl
    | 1, _ => rfl
    | 2, _ => rfl
    | 3, _ => rfl
    | 4, _ => rfl
  · match k, hk with
    | 0, _ => simp [World.setCell, Array.getElem?_modify, h, exRow]
    | 1, _ => simp [World.setCell, Array.getElem?_modify, h, exRow]
    | 2, _ => simp [World.setCell, Array.getElem?_modify, h, exRow]
    | 3, _ => simp [World.setCell, Array.getElem?_modify, h, exRow]
    | 4, _ => simp [World.setCell, Array.getElem?_modify, h, exRow]
set_option maxRecDepth 100000 in
set_option maxHeartbeats 4000000 in
theorem exam_any (w : World) :
    Calls Try.prog 29 #[] w fun e w' => ∃ a b, e = .returned (.tuple #[.slice (some ⟨a, 0, none⟩) 1 1, .slice (some ⟨b, 0, none⟩) 2 2]) ∧ LstC w' (.slice (some ⟨a, 0, none⟩) 1 1) [exC] ∧ LstX w' (.slice (some ⟨b, 0, none⟩) 2 2) exX ∧ Below w.heap.size w w' := by
  go_enter Try.func29, Try.ntmps29
  go_wp2_with fail
  go_loopw [3] (fun i wr => ∃ k : Nat, i = .int .i64 k ∧ k ≤ 5 ∧ Hid (wr.heap[w.heap.size]? = some (.cells (exRow { data := #[119, 111, 114, 107] } k) 50 (0, 0))) ∧ Hid (Below w.heap.size w wr)) (fun i _ => 5 - (intOf i).toNat)
  case atStart => exact ⟨0, rfl, Nat.zero_le _, Lib.hid (heap_alloc_new w _), Lib.hid ((Below.refl _ _).alloc (Nat.le_refl _) _)⟩
  case round =>
    obtain ⟨k, rfl, hk, HR, HB⟩ := hrel
    by_cases hlt : k < 5
    · obtain ⟨m0, f0, h2⟩ := exRow_next hlt HR.out
      have ix := fun W => wix_run w.heap.size 1 k (by omega) W
      have gk : (k : Int) < 5 := by omega
      have R2 := Lib.hid h2
      have B2 := Lib.hid (HB.out.setCell (p := ⟨w.heap.size, 1 + k, none⟩) (Nat.le_refl _) (.bool true))
      clear h2 HR HB hlt
      go_wp2_with fail
      go_roundw
      case rel => exact ⟨k + 1, by go_num, by omega, R2, B2⟩
      case measure => simp [intOf]; omega
    · obtain rfl : k = 5 := by omega
      have r5 : wr.heap[w.heap.size]? = some (.cells #[.string { data := #[119, 111, 114, 107] }, .bool true, .bool true, .bool true, .bool true, .bool true, .bool false, .bool false, .int .i64 0, .int .i64 13] 50 (0, 0)) := HR.out
      have c0 : wr.cell? ⟨w.heap.size, 0, none⟩ = some (.string { data := #[119, 111, 114, 107] }) := by rw [cell_of_row _ _ 0 _ _ _ r5]; rfl
      have c1 : wr.cell? ⟨w.heap.size, 1, none⟩ = some (.bool true) := by rw [cell_of_row _ _ 1 _ _ _ r5]; rfl
      have c2 : wr.cell? ⟨w.heap.size, 2, none⟩ = some (.bool true) := by rw [cell_of_row _ _ 2 _ _ _ r5]; rfl
      have c3 : wr.cell? ⟨w.heap.size, 3, none⟩ = some (.bool true) := by rw [cell_of_row _ _ 3 _ _ _ r5]; rfl
      have c4 : wr.cell? ⟨w.heap.size, 4, none⟩ = some (.bool true) := by rw [cell_of_row _ _ 4 _ _ _ r5]; rfl
      have c5 : wr.cell? ⟨w.heap.size, 5, none⟩ = some (.bool true) := by rw [cell_of_row _ _ 5 _ _ _ r5]; rfl
      have c6 : wr.cell? ⟨w.heap.size, 6, none⟩ = some (.bool false) := by rw [cell_of_row _ _ 6 _ _ _ r5]; rfl
      have c7 : wr.cell? ⟨w.heap.size, 7, none⟩ = some (.bool false) := by rw [cell_of_row _ _ 7 _ _ _ r5]; rfl
      have c8 : wr.cell? ⟨w.heap.size, 8, none⟩ = some (.int .i64 0) := by rw [cell_of_row _ _ 8 _ _ _ r5]; rfl
      have c9 : wr.cell? ⟨w.heap.size, 9, none⟩ = some (.int .i64 13) := by rw [cell_of_row _ _ 9 _ _ _ r5]; rfl
      have hz := HB.out.size
      clear r5 HR hlt
      go_wp2_with fail
      go_ret2
      refine ⟨_, _, rfl, LstG.below (lstG_lit wr _ 50 [exC] rfl 1 rfl) ((Below.refl _ _).alloc (Nat.le_refl _) _), litG_at (enc := xe) _ _ 53 exX rfl 2 rfl _ (by simp), (HB.out.alloc hz _).alloc ?_ _⟩
      simp
      omega
end Go.Proofs.Ytlbockpaeacigaa
