/-
  Clone, Grow, Concat, Equal over footpaths: what each call answers. Condition: the lists' lengths are below the bounds that each theorem names.
-/
import Derived.Test.YtibakhobgfiklaaFpE
import Derived.Test.YtibakhobgfiklaaShelf
import Derived.Test.YtibakhobgfiklaaMb
namespace Go.Proofs.Ytibakhobgfiklaa
open Go.RowKit Go.Sort

theorem fps_is_nil (A : Option Addr) (n c : Nat) (W : World) : (binOp BinOp.eql 22 (.slice A n c) (.slice none 0 0)).run Try.prog W = .ok (.bool A.isNone) W := Go.Lib.run_eql_slice_nil W 22 42 A n c 0 0 Try.underlying22
set_option maxHeartbeats 1000000 in
theorem clone_any (v : Value) (l : List Fp) (hl : l.length ≤ 1000000) (w : World) (h : LstF w v l) :
    Calls Try.prog 65 #[v] w fun e w' => ∃ v', e = .returned v' ∧ OwnF w' w.heap.size v' l ∧ RowKit.Below w.heap.size w w' := by
  have hh := h
  obtain ⟨A, c, rfl, -, hn, -⟩ := hh
  cases A with
  | none =>
    obtain rfl := hn rfl
    have hl0 : l.length = 0 := by obtain ⟨_, _, hv, h1, _⟩ := h; cases hv; omega
    have hl1 : l = [] := List.length_eq_zero_iff.1 hl0
    subst hl1
    clear h hl0 hn
    simp only [List.length_nil]
    have SN : ∀ W, (binOp BinOp.eql 22 (.slice none 0 0) (.slice none 0 0)).run Try.prog W = .ok (.bool true) W := fun W => fps_is_nil none 0 0 W
    go_enter Try.func65, Try.ntmps65
    go_wp2_with fail
    go_ret
    exact ⟨_, rfl, OwnG.nil _ _ _ _ _, RowKit.Below.refl _ _⟩
  | some a =>
    have H := Lib.hid h
    clear h hn
    go_enter Try.func65, Try.ntmps65
    have o0 : OwnF (w.alloc (.cells #[] 42 (0, 0))) w.heap.size (.slice (some ⟨w.heap.size, 0, none⟩) 0 0) [] := World.ownsRow_lit w #[] 0 (Nat.le_refl _) (by unfold maxLen; omega) rfl
    have O0 := Lib.hid o0
    have SN : ∀ W, (binOp BinOp.eql 22 (.slice (some a) l.length c) (.slice none 0 0)).run Try.prog W = .ok (.bool false) W := fun W => fps_is_nil (some a) l.length c W
    clear o0
    go_wp2_with (at_builtin; refine appG_list fe_len fe_one (by decide) Try.underlying22 info_fp rfl (by decide) _ rfl (.tmp 5) (.tmp 6) rfl w.heap.size _ [] l rfl O0.out _ rfl (H.out.below ((RowKit.Below.refl _ _).alloc (Nat.le_refl _) _)) (by simp) (by simp; omega) ?_)
    intro v1 w2 own1 b2 _ _
    have R : Hid (OwnF w2 w.heap.size v1 l ∧ RowKit.Below w.heap.size w w2) := ⟨own1, ((RowKit.Below.refl _ _).alloc (Nat.le_refl _) _).trans b2⟩
    clear own1 b2
    go_wp2_with fail
    go_ret
    exact ⟨_, rfl, R.out⟩
theorem own_nil_shape {T : TypeId} {w : World} {base : Nat} {v : Value} (h : OwnG fe T 4 w base v []) : ∃ A c, v = .slice A 0 c := by
  obtain ⟨A, c, hv, _⟩ := ownK_shape h
  exact ⟨A, c, hv⟩
theorem grow_any (n : Nat) (hn : n ≤ 1000000) (w : World) :
    Calls Try.prog 43 #[.slice none 0 0, .int .i64 (n : Int)] w fun e w' => ∃ v', e = .returned v' ∧ OwnF w' w.heap.size v' [] ∧ RowKit.Below w.heap.size w w' := by
  rcases Nat.eq_zero_or_pos n with rfl | h
  · refine (Try.slices_Grow_fps_room none 0 0 0 w (Nat.le_refl _) (by decide) (by decide) (Nat.le_refl _)).mono ?_
    rintro e w' ⟨rfl, rfl⟩
    exact ⟨_, rfl, OwnG.nil _ _ _ _ _, RowKit.Below.refl _ _⟩
  · obtain ⟨i, hi, hz, hsz, hby⟩ := info_parts info_fp
    refine (Try.slices_Grow_fps i _ hi hz (by omega) none 0 0 n [] w (Nat.le_refl _) (by omega) (by rw [hby]; omega) (by omega) (by simp) (fun _ => rfl) (fun a ha => by cases ha)).mono ?_
    rintro e w' ⟨rfl, rfl⟩
    have h1 := grownCap_ge w (0 + n) 0 42
    have h2 := grownCap_le_maxLen w (0 + n) 0 42 (by unfold maxLen; omega)
    generalize grownCap w (0 + n) 0 42 = G at h1 h2 ⊢
    refine ⟨_, rfl, ⟨rfl, .inr ⟨w.heap.size, G, _, rfl, Nat.le_refl _, heap_alloc_new _ _, by simp, h2, ?_, ?_⟩⟩, ((RowKit.Below.refl _ _).drew).alloc (Nat.le_refl _) _⟩
    · simp [size_zeroCells, Value.cells]
      omega
    · simp [fl]
set_option maxRecDepth 100000 in
set_option maxHeartbeats 4000000 in
theorem concat_any (va vb : Value) (a b : List Fp) (ha : a.length ≤ 100000) (hb : b.length ≤ 100000) (bs : Nat) (w : World) (h0 : w.cell? ⟨bs, 0, none⟩ = some va) (h1 : w.cell? ⟨bs, 1, none⟩ = some vb) (hA : LstF w va a) (hB : LstF w vb b) :
    Calls Try.prog 35 #[.slice (some ⟨bs, 0, none⟩) 2 2] w fun e w' => ∃ v', e = .returned v' ∧ OwnF w' w.heap.size v' (a ++ b) ∧ RowKit.Below w.heap.size w w' := by
  have hh := hA
  obtain ⟨A, ca, rfl, -⟩ := hh
  have hh := hB
  obtain ⟨B, cb, rfl, -⟩ := hh
  have HA := Lib.hid hA
  have HB := Lib.hid hB
  have G := Lib.hid (grow_any (a.length + b.length) (by omega) w)
  rw [show ((a.length + b.length : Nat) : Int) = (a.length : Int) + (b.length : Int) by omega] at G
  have hbs := World.block_lt_of_cell? _ _ h0
  have za : decide ((a.length : Int) < 0) = false := decide_eq_false (by omega)
  have zab : decide ((a.length : Int) + (b.length : Int) < 0) = false := decide_eq_false (by omega)
  have wab : IntKind.i64.wrap ((a.length : Int) + (b.length : Int)) = (a.length : Int) + (b.length : Int) := by rw [IntKind.wrap_i64]; omega
  clear hA hB
  go_enter Try.func35, Try.ntmps35
  go_wp2_with fail
  go_loopw [3, 11] (fun s i wr => wr = w ∧ (i = .int .i64 0 ∧ s = .int .i64 0 ∨ i = .int .i64 1 ∧ s = .int .i64 (a.length : Int) ∨ i = .int .i64 2 ∧ s = .int .i64 ((a.length : Int) + (b.length : Int)))) (fun _ i _ => 2 - (intOf i).toNat)
  case atStart => exact ⟨rfl, .inl ⟨rfl, rfl⟩⟩
  case round =>
    obtain ⟨hw, ⟨rfl, rfl⟩ | ⟨rfl, rfl⟩ | ⟨rfl, rfl⟩⟩ := hrel
    · subst hw
      clear G zab wab
      go_wp2_with fail
      go_roundw
      case rel => exact ⟨trivial, .inr (.inl ⟨rfl, rfl⟩)⟩
      case measure => simp [intOf]
    · subst hw
      clear G
      go_wp2_with fail
      go_roundw
      case rel => exact ⟨trivial, .inr (.inr ⟨rfl, rfl⟩)⟩
      case measure => simp [intOf]
    · have hw' := hw.symm
      subst hw'
      clear hw
      go_wp2_with fail
      refine G.out.mono ?_
      rintro e w1 ⟨v1, rfl, o1, b1⟩
      have O1 := Lib.hid o1
      have B1 := Lib.hid b1
      obtain ⟨A1, c1, rfl⟩ := own_nil_shape o1
      clear G o1 b1
      go_wp2_with fail
      go_loopw [6, 27] (fun u i w2 => Hid (RowKit.Below w.heap.size w w2) ∧ (i = .int .i64 0 ∧ Hid (OwnF w2 w.heap.size u []) ∨ i = .int .i64 1 ∧ Hid (OwnF w2 w.heap.size u a) ∨ i = .int .i64 2 ∧ Hid (OwnF w2 w.heap.size u (a ++ b)))) (fun _ i _ => 2 - (intOf i).toNat)
      case atStart => exact ⟨B1, .inl ⟨rfl, O1⟩⟩
      case round =>
        obtain ⟨HW, ⟨rfl, HO⟩ | ⟨rfl, HO⟩ | ⟨rfl, HO⟩⟩ := hrel
        · have q := (HW.out.cell (p := ⟨bs, 0, none⟩) hbs).trans h0
          have LM := Lib.hid (HA.out.below HW.out)
          have hz := HW.out.size
          clear h0 h1
          go_wp2_with (at_builtin; refine appG_list fe_len fe_one (by decide) Try.underlying22 info_fp rfl (by decide) _ rfl (.tmp 31) (.tmp 32) rfl w.heap.size _ [] a rfl HO.out _ rfl LM.out hz (by first | omega | (simp; omega)) ?_; intro v3 w3 own3 b3 gr3 wh3; have O3 := Lib.hid own3; have B3 := Lib.hid (HW.out.trans b3); clear own3 b3 gr3 wh3)
          clear HO HW LM q
          go_wp2_with fail
          go_roundw
          case rel => exact ⟨B3, .inr (.inl ⟨rfl, O3⟩)⟩
          case measure => simp [intOf]
        · have q := (HW.out.cell (p := ⟨bs, 1, none⟩) hbs).trans h1
          have LM := Lib.hid (HB.out.below HW.out)
          have hz := HW.out.size
          clear h0 h1
          go_wp2_with (at_builtin; refine appG_list fe_len fe_one (by decide) Try.underlying22 info_fp rfl (by decide) _ rfl (.tmp 31) (.tmp 32) rfl w.heap.size _ a b rfl HO.out _ rfl LM.out hz (by first | omega | (simp; omega)) ?_; intro v3 w3 own3 b3 gr3 wh3; have O3 := Lib.hid own3; have B3 := Lib.hid (HW.out.trans b3); clear own3 b3 gr3 wh3)
          clear HO HW LM q
          go_wp2_with fail
          go_roundw
          case rel => exact ⟨B3, .inr (.inr ⟨rfl, O3⟩)⟩
          case measure => simp [intOf]
        · clear h0 h1
          go_wp2_with fail
          go_ret
          exact ⟨_, rfl, HO.out, HW.out⟩

/-! ### Equal -/
theorem list_neq_at {α : Type} {a b : List α} {k : Nat} {x y : α} (hx : a[k]? = some x) (hy : b[k]? = some y) (h : x ≠ y) : a ≠ b := by
  intro e
  rw [e, hy] at hx
  exact h (Option.some.inj hx).symm
theorem list_eq_all {α : Type} {a b : List α} (hl : a.length = b.length) (h : ∀ j, j < a.length → a[j]? = b[j]?) : a = b := by
  apply List.ext_getElem?
  intro j
  by_cases hj : j < a.length
  · exact h j hj
  · rw [List.getElem?_eq_none (by omega), List.getElem?_eq_none (by omega)]
theorem fp_iff (x y : Fp) : (x.1 = y.1 ∧ x.2.1 = y.2.1 ∧ x.2.2.1 = y.2.2.1 ∧ x.2.2.2 = y.2.2.2) ↔ x = y := by
  obtain ⟨a, b, s, f⟩ := x
  obtain ⟨a', b', s', f'⟩ := y
  simp [Prod.ext_iff]
set_option maxRecDepth 100000 in
set_option maxHeartbeats 2000000 in
theorem equal_any (va vb : Value) (a b : List Fp) (ha : a.length ≤ 1000000) (w : World) (hA : LstF w va a) (hB : LstF w vb b) : Calls Try.prog 32 #[va, vb] w fun e w' => e = .returned (.bool (decide (a = b))) ∧ ∃ m, w' = w.drewN m := by
  have hh := hA
  obtain ⟨A, ca, rfl, -⟩ := hh
  have hh := hB
  obtain ⟨B, cb, rfl, -⟩ := hh
  have HA := Lib.hid hA
  have HB := Lib.hid hB
  clear hA hB
  have gq := gq_fp
  by_cases hl : a.length = b.length
  · have d0 := neq_false (a := (a.length : Int)) (b := (b.length : Int)) (by omega)
    have HL := Lib.hid hl
    clear hl
    go_enter Try.func32, Try.ntmps32
    go_wp2_with fail
    go_loopw [13] (fun i wr => ∃ k : Nat, i = .int .i64 (k : Int) ∧ k ≤ a.length ∧ Hid (∀ j, j < k → a[j]? = b[j]?) ∧ Hid (∃ n, wr = w.drewN n)) (fun i _ => a.length - (intOf i).toNat)
    case atStart => exact ⟨0, rfl, Nat.zero_le _, Lib.hid (fun j hj => absurd hj (Nat.not_lt_zero _)), Lib.hid ⟨0, rfl⟩⟩
    case round =>
      obtain ⟨k, rfl, hk, HE, HD⟩ := hrel
      obtain ⟨n0, hn0⟩ := HD.out
      have BW : RowKit.Below w.heap.size w wr := by rw [hn0]; exact below_drewN (RowKit.Below.refl _ _) n0
      by_cases hlt : k < a.length
      · have gk : (k : Int) < (a.length : Int) := by omega
        have gk' : (k : Int) < (b.length : Int) := by have := HL.out; omega
        obtain ⟨x, hx⟩ := at_lt hlt
        obtain ⟨y, hy⟩ := at_lt (show k < b.length by have := HL.out; omega)
        obtain ⟨b1, o1, rfl, -, x0, x1, x2, x3⟩ := four_at (HA.out.below BW) (a := x.1) (b := x.2.1) (s := x.2.2.1) (f := x.2.2.2) hx
        obtain ⟨b2, o2, rfl, -, y0, y1, y2, y3⟩ := four_at (HB.out.below BW) (a := y.1) (b := y.2.1) (s := y.2.2.1) (f := y.2.2.2) hy
        obtain ⟨q, hq⟩ : ∃ q, (!decide (x.1 = y.1 ∧ x.2.1 = y.2.1 ∧ x.2.2.1 = y.2.2.1 ∧ x.2.2.2 = y.2.2.2)) = q := ⟨_, rfl⟩
        have NE := fun W => neq_fp x.1 x.2.1 x.2.2.1 y.1 y.2.1 y.2.2.1 x.2.2.2 y.2.2.2 q hq W
        cases q with
        | true =>
          have N : Hid (decide (a = b) = false) := by
            refine decide_eq_false (list_neq_at hx hy ?_)
            intro e
            have h0 := (fp_iff x y).2 e
            rw [decide_eq_true h0] at hq
            cases hq
          clear hx hy hq HE hn0 BW
          go_wp2_with fail
          go_quiet (fail)
          have B4 := drew_on HD nq
          generalize wr.drewN nq = w2 at B4 ⊢
          clear HD x0 x1 x2 x3 y0 y1 y2 y3
          go_wp2_with fail
          go_ret
          exact ⟨ret_bool N.out.symm, B4.out⟩
        | false =>
          have N : Hid (∀ j, j < k + 1 → a[j]? = b[j]?) := by
            intro j hj
            by_cases e : j = k
            · subst e
              have : x = y := (fp_iff x y).1 (of_decide_eq_true (by simpa using hq))
              rw [hx, hy, this]
            · exact HE.out j (by omega)
          clear hx hy hq HE hn0 BW
          go_wp2_with fail
          go_quiet (fail)
          have B4 := drew_on HD nq
          generalize wr.drewN nq = w2 at B4 ⊢
          clear HD x0 x1 x2 x3 y0 y1 y2 y3
          go_wp2_with fail
          go_roundw
          case rel => exact ⟨k + 1, by go_num, by omega, N, B4⟩
          case measure => simp [intOf]; omega
      · have d : decide (k < a.length) = false := by rw [decide_eq_false_iff_not]; exact hlt
        have N : Hid (decide (a = b) = true) := decide_eq_true (list_eq_all HL.out (fun j hj => HE.out j (by omega)))
        clear hlt HE hn0 BW
        go_wp2_with fail
        go_ret
        exact ⟨ret_bool N.out.symm, HD.out⟩
  · have d0 := bne_true (a := (a.length : Int)) (b := (b.length : Int)) (by omega)
    have N : Hid (decide (a = b) = false) := decide_eq_false (fun e => hl (by rw [e]))
    clear hl
    go_enter Try.func32, Try.ntmps32
    go_wp2_with fail
    go_ret
    exact ⟨ret_bool N.out.symm, ⟨0, rfl⟩⟩
end Go.Proofs.Ytibakhobgfiklaa
