/-
  IndexFunc, DeleteFunc: the footpaths that count are kept. Parts of a row, cells cleared. Condition: rows of at most 100000000 footpaths.
-/
import Derived.Test.YtibakhobgfiklaaFpE
import Derived.Lib.SliceRun
import Derived.Lib.SlBuf
namespace Go.Proofs.Ytibakhobgfiklaa
open Go.RowKit Go.Sort

theorem size_fp : ∀ w, (Go.sizeOf 42).run Try.prog w = .ok 4 w := fun w => by
  obtain ⟨i, hi, _, hsz, _⟩ := info_parts info_fp
  simp [sizeOf, typeInfo, hi, hsz]
theorem elem_fps : Try.prog.elem 22 = 42 := by simp [Program.elem, Try.underlying22]
theorem under_fps : Try.prog.underlying 22 = some (.slice (Try.prog.elem 22)) := by rw [elem_fps]; exact Try.underlying22
theorem fps_to (g N c i : Nat) (hi : i ≤ N) (hc : N ≤ c) (W : World) : (Instr.slice 22 (.slice (some ⟨g, 0, none⟩) N c) none (some (.int .i64 (i : Int))) none).run Try.prog W = .ok (.slice (some ⟨g, 0, none⟩) i c) W := by
  rw [run_slice_h W 22 (some ⟨g, 0, none⟩) N c under_fps .i64 i (by omega) (by omega), elem_fps, size_fp]
  simp only [Result.andThen, sliced, Int.toNat_natCast, Nat.sub_zero, Nat.zero_mul]
  split
  · rfl
  · show Result.ok (Value.slice (some ((⟨g, 0, none⟩ : Addr).add 0)) i c) W = _
    rw [Addr.add_lit]
theorem fps_from (g N c i : Nat) (hi : i < N) (hc : N ≤ c) (W : World) : (Instr.slice 22 (.slice (some ⟨g, 0, none⟩) N c) (some (.int .i64 (i : Int))) none none).run Try.prog W = .ok (.slice (some ⟨g, i * 4, none⟩) (N - i) (c - i)) W := by
  rw [run_slice_l W 22 (some ⟨g, 0, none⟩) N c under_fps .i64 i (by omega) (by omega), elem_fps, size_fp]
  simp only [Result.andThen, sliced, Int.toNat_natCast]
  rw [if_neg (by omega)]
  show Result.ok (Value.slice (some ((⟨g, 0, none⟩ : Addr).add (i * 4))) (N - i) (c - i)) W = _
  rw [Addr.add_lit, Nat.zero_add]
/-- What is cleared. -/
def zfp (n : Nat) : List Value := (Builtin.zeroCells #[.int .i64 0, .int .i64 0, .int .i64 0, .bool false] n).toList
theorem zfp_len (n : Nat) : (zfp n).length = n * 4 := by
  unfold zfp Builtin.zeroCells
  simp
theorem zfp_one (n : Nat) : ∀ v ∈ zfp n, v.oneCell' = true := by
  intro v hv
  unfold zfp at hv
  obtain ⟨i, hi⟩ := List.mem_iff_getElem?.1 hv
  obtain ⟨hl, he⟩ := List.getElem?_eq_some_iff.1 hi
  rw [← he]
  have hm : i % 4 < 4 := Nat.mod_lt _ (by decide)
  simp only [Builtin.zeroCells, Array.getElem_toList]
  simp
  generalize i % 4 = j at hm ⊢
  match j, hm with
  | 0, _ => rfl
  | 1, _ => rfl
  | 2, _ => rfl
  | 3, _ => rfl
/-- Behind a clearing of all from the i-th footpath on: the first i stay. -/
theorem own_clear {w : World} {base g N c : Nat} {l : List Fp} (h : OwnF w base (.slice (some ⟨g, 0, none⟩) N c) l) (i : Nat) (hi : i < N) :
    (∀ ty, (Builtin.clear_ #[22] ty #[.slice (some ⟨g, i * 4, none⟩) (N - i) (c - i)]).run Try.prog w = .ok (.tuple #[]) (w.setCells g (i * 4) (zfp (N - i)))) ∧
      OwnF (w.setCells g (i * 4) (zfp (N - i))) base (.slice (some ⟨g, 0, none⟩) i c) (l.take i) ∧ ∀ w0, RowKit.Below base w0 w → RowKit.Below base w0 (w.setCells g (i * 4) (zfp (N - i))) := by
  have hl := own_len (pr := id) h
  have hb := OwnQ.base (pr := id) h
  refine ⟨fun ty => ?_, ?_, fun w0 hw => Lib.below_setCells g hb.1 _ _ hw⟩
  · obtain ⟨m, hm⟩ : ∃ m, N - i = m + 1 := ⟨N - i - 1, by omega⟩
    have cells : ∀ j, j < N * 4 → (w.cell? ⟨g, j, none⟩).isSome = true ∧ w.frozen? ⟨g, j, none⟩ = false := by
      intro j hj
      obtain ⟨x, hx⟩ := at_lt (show j / 4 < l.length by omega)
      obtain ⟨x0, x1, x2, x3, r0, r1, r2, r3⟩ := OwnQ.at (pr := id) hl h hx
      have hm : j % 4 < 4 := Nat.mod_lt _ (by decide)
      have e := Nat.div_add_mod j 4
      generalize j % 4 = q at hm e
      rw [Nat.mul_comm] at e
      match q, hm, e with
      | 0, _, e => rw [Nat.add_zero] at e; rw [← e]; exact ⟨by rw [x0]; rfl, r0⟩
      | 1, _, e => rw [← e]; exact ⟨by rw [x1]; rfl, r1⟩
      | 2, _, e => rw [← e]; exact ⟨by rw [x2]; rfl, r2⟩
      | 3, _, e => rw [← e]; exact ⟨by rw [x3]; rfl, r3⟩
    have hz := zfp_len (N - i)
    have hst := run_storeCells_cells (P := Try.prog) g (i * 4) (zfp (N - i)) 0 w (fun j hj => (cells (i * 4 + 0 + j) (by omega)).1) (fun j hj => (cells (i * 4 + 0 + j) (by omega)).2) (zfp_one _)
    simp only [Nat.add_zero] at hst
    obtain ⟨i0, hi0, hz0, -, -⟩ := info_parts info_fp
    have hv : (zeroValue 42).run Try.prog w = .ok (.agg #[.int .i64 0, .int .i64 0, .int .i64 0, .bool false]) w := by simp [zeroValue, typeInfo, hi0, hz0]
    rw [hm] at hst ⊢
    unfold zfp at hst ⊢
    have hst' : Sem.run Try.prog (storeCells ⟨g, i * 4, none⟩ (Builtin.zeroCells (Value.cells (.agg #[.int .i64 0, .int .i64 0, .int .i64 0, .bool false])) (m + 1)).toList 0) w = _ := hst
    simp [Builtin.clear_, run_underlying Try.underlying22, hv, hst']
  · have hp := OwnG.part fe_len hl h i (by omega)
    have tail : ∀ (vs : List Value) (o : Nat) (W : World), i * 4 ≤ o → OwnF W base (.slice (some ⟨g, 0, none⟩) i c) (l.take i) → OwnF (W.setCells g o vs) base (.slice (some ⟨g, 0, none⟩) i c) (l.take i) := by
      intro vs
      induction vs with
      | nil => intro o W _ hW; exact hW
      | cons v r ih =>
        intro o W ho hW
        refine ih (o + 1) _ (by omega) ?_
        have htl : (l.take i).length = i := by rw [List.length_take]; omega
        have hW' : W.ownsRow base 42 4 (.slice (some ⟨g, 0, none⟩) i c) (l.take i).length (fl fe (l.take i)) := hW
        rw [htl] at hW'
        have hs := (World.ownsRow.stored hW' o v).1
        rw [List.set_eq_of_length_le (by rw [fl_len fe_len, htl]; omega)] at hs
        show World.ownsRow _ base 42 4 _ (l.take i).length (fl fe (l.take i))
        rw [htl]
        exact hs
    exact tail _ _ w (Nat.le_refl _) hp
/-! ### IndexFunc, DeleteFunc -/
/-- The function that is handed on, with the place of what it has captured. -/
abbrev delV (B : Nat) : Value := .func (.func 66) #[] #[.pointer (some ⟨B, 0, none⟩)]
set_option maxRecDepth 100000 in
set_option maxHeartbeats 2000000 in
theorem idx_any (base g N c B : Nat) (sf : Bool) (l : List Fp) (hN : l.length = N) (hN2 : N ≤ 100000000) (w : World) (h : OwnF w base (.slice (some ⟨g, 0, none⟩) N c) l) (hs : base ≤ w.heap.size) (hB : B < base) (hc : w.cell? ⟨B, 0, none⟩ = some (.bool sf)) :
    Calls Try.prog 77 #[.slice (some ⟨g, 0, none⟩) N c, delV B] w fun e w' =>
      ∃ r : Int, e = .returned (.int .i64 r) ∧ RowKit.Below w.heap.size w w' ∧ ((r = -1 ∧ ∀ x ∈ l, useP sf x = true) ∨ ∃ (i : Nat) (x : Fp), r = (i : Int) ∧ l[i]? = some x ∧ useP sf x = false ∧ ∀ y ∈ l.take i, useP sf y = true) := by
  have H := Lib.hid h
  have HN := Lib.hid hN
  have HC := Lib.hid hc
  have HZ : Hid (base ≤ w.heap.size ∧ B < w.heap.size) := Lib.hid ⟨hs, by omega⟩
  clear h hN hc
  go_enter Try.func77, Try.ntmps77
  go_wp2_with fail
  go_loopw [8] (fun i wr => ∃ k : Nat, i = .int .i64 (k : Int) ∧ k ≤ N ∧ Hid (∀ y ∈ l.take k, useP sf y = true) ∧ Hid (RowKit.Below w.heap.size w wr)) (fun i _ => N - (intOf i).toNat)
  case atStart => exact ⟨0, rfl, Nat.zero_le _, Lib.hid (fun y hy => by simp at hy), Lib.hid (RowKit.Below.refl _ _)⟩
  case round =>
    obtain ⟨k, rfl, hk, HP, HB⟩ := hrel
    by_cases hlt : k < N
    · have gk : (k : Int) < (N : Int) := by omega
      obtain ⟨x, hx⟩ := at_lt (show k < l.length by have := HN.out; omega)
      obtain ⟨x0, x1, x2, x3, -⟩ := OwnQ.at (pr := id) HN.out (H.out.below HB.out) hx
      have m0 := (HB.out.cell (p := ⟨B, 0, none⟩) HZ.out.2).trans HC.out
      have C := Lib.hid (delc_any x B sf wr m0)
      obtain ⟨q, hq⟩ : ∃ q, useP sf x = q := ⟨_, rfl⟩
      rw [hq] at C
      have tk := take_at l k x hx
      cases q with
      | true =>
        have NP : Hid (∀ y ∈ l.take (k + 1), useP sf y = true) := by
          intro y hy
          rw [tk] at hy
          rcases List.mem_append.1 hy with hy | hy
          · exact HP.out y hy
          · rw [List.mem_singleton.1 hy]; exact hq
        clear hx tk hq m0 HP
        go_wp2_with fail
        refine C.out.mono ?_
        rintro e w2 ⟨rfl, b2⟩
        have B2 := Lib.hid (HB.out.trans (b2.mono HB.out.size))
        clear b2 C HB
        go_wp2_with fail
        go_roundw
        case rel => exact ⟨k + 1, by go_num, by omega, NP, B2⟩
        case measure => simp [intOf]; omega
      | false =>
        have K : Hid (l[k]? = some x ∧ useP sf x = false ∧ ∀ y ∈ l.take k, useP sf y = true) := Lib.hid ⟨hx, hq, HP.out⟩
        clear hx tk hq m0 HP
        go_wp2_with fail
        refine C.out.mono ?_
        rintro e w2 ⟨rfl, b2⟩
        have B2 := Lib.hid (HB.out.trans (b2.mono HB.out.size))
        clear b2 C HB
        go_wp2_with fail
        go_ret
        exact ⟨_, rfl, B2.out, .inr ⟨k, x, rfl, K.out⟩⟩
    · have d : decide (k < N) = false := by rw [decide_eq_false_iff_not]; exact hlt
      have K : Hid (∀ x ∈ l, useP sf x = true) := by
        have := HP.out
        rw [List.take_of_length_le (by have := HN.out; omega)] at this
        exact this
      clear hlt HP
      go_wp2_with fail
      go_ret
      exact ⟨_, rfl, HB.out, .inl ⟨rfl, K.out⟩⟩
/-- What DeleteFunc has kept of the first so many. -/
def DelS (W : World) (base g N c : Nat) (sf : Bool) (l : List Fp) (i j : Nat) : Prop := ∃ R : List Fp, R.length = N ∧ R.take i = (l.take j).filter (useP sf) ∧ R.drop j = l.drop j ∧ OwnF W base (.slice (some ⟨g, 0, none⟩) N c) R
theorem del_put {W : World} {base g N c i j : Nat} {sf : Bool} {l R : List Fp} {x : Fp} (h1 : R.length = N) (h2 : R.take i = (l.take j).filter (useP sf)) (h3 : R.drop j = l.drop j) (hij : i < j) (tk : l.take (j + 1) = l.take j ++ [x]) (hq : useP sf x = true) (hj : j < N)
    (h : OwnF W base (.slice (some ⟨g, 0, none⟩) N c) (R.set i x)) : DelS W base g N c sf l (i + 1) (j + 1) := by
  refine ⟨R.set i x, by rw [List.length_set]; exact h1, ?_, ?_, h⟩
  · have hil : i < R.length := by omega
    rw [tk, List.filter_append, List.filter_cons_of_pos hq, ← h2, List.take_succ_eq_append_getElem (by rw [List.length_set]; exact hil), List.take_set_of_le (Nat.le_refl _)]
    simp
  · have h4 : R.drop (j + 1) = l.drop (j + 1) := by
      have := congrArg (List.drop 1) h3
      rw [List.drop_drop, List.drop_drop] at this
      exact this
    rw [List.drop_set_of_lt (by omega)]
    exact h4
set_option maxRecDepth 100000 in
set_option maxHeartbeats 2000000 in
theorem del_any (base g N c B : Nat) (sf : Bool) (l : List Fp) (hN : l.length = N) (hN2 : N ≤ 100000000) (w : World) (h : OwnF w base (.slice (some ⟨g, 0, none⟩) N c) l) (hs : base ≤ w.heap.size) (hB : B < base) (hc : w.cell? ⟨B, 0, none⟩ = some (.bool sf)) :
    Calls Try.prog 64 #[.slice (some ⟨g, 0, none⟩) N c, delV B] w fun e w' =>
      ∃ v, e = .returned v ∧ OwnF w' base v (l.filter (useP sf)) ∧ RowKit.Below base w w' := by
  have I := Lib.hid (idx_any base g N c B sf l hN hN2 w h hs hB hc)
  have hcap : N ≤ c := by
    rcases OwnG.low h with ⟨h0, -⟩ | ⟨g', c', h0, -, -, h1⟩
    · cases h0
    · cases h0; omega
  have H := Lib.hid h
  have HN := Lib.hid hN
  have HC := Lib.hid hc
  have HZ : Hid (base ≤ w.heap.size ∧ B < base) := Lib.hid ⟨hs, hB⟩
  clear h hN hc
  go_enter Try.func64, Try.ntmps64
  go_wp2_with fail
  refine I.out.mono ?_
  rintro e w1 ⟨r, rfl, b1, hr⟩
  have H1 := Lib.hid (H.out.below b1)
  have B1 := Lib.hid (b1.mono HZ.out.1)
  clear b1 I H
  rcases hr with ⟨rfl, ha⟩ | ⟨i, x, rfl, hx, hu, ha⟩
  · have E : Hid (l.filter (useP sf) = l) := List.filter_eq_self.2 ha
    clear ha
    go_wp2_with fail
    go_ret
    exact ⟨_, rfl, by rw [E.out]; exact H1.out, B1.out⟩
  · have hi := (List.getElem?_eq_some_iff.1 hx).1
    have hiN : i < N := by have := HN.out; omega
    have f0 : (l.take i).filter (useP sf) = l.take i := List.filter_eq_self.2 ha
    have f1 : (l.take (i + 1)).filter (useP sf) = l.take i := by
      rw [take_at l i x hx, List.filter_append, f0, List.filter_cons_of_neg (by rw [hu]; simp)]
      simp
    have t0 : ((i : Int) == -1) = false := beq_false (by omega)
    have S0 : Hid (DelS w1 base g N c sf l i (i + 1)) := Lib.hid ⟨l, HN.out, f1.symm, rfl, H1.out⟩
    have bi : i ≤ 100000000 := by omega
    clear hx hu ha hi f0 f1 H1
    go_wp2_with fail
    clear t0
    go_loopw [5, 6] (fun a b wr => ∃ i' j' : Nat, a = .int .i64 (i' : Int) ∧ b = .int .i64 (j' : Int) ∧ i' < j' ∧ j' ≤ N ∧ Hid (DelS wr base g N c sf l i' j') ∧ Hid (RowKit.Below base w wr)) (fun _ b _ => N - (intOf b).toNat)
    case atStart => exact ⟨i, i + 1, rfl, by go_num, by omega, by omega, S0, B1⟩
    case round =>
      clear S0 B1 hiN bi
      obtain ⟨i, j, rfl, rfl, hij, hj, HR, HB⟩ := hrel
      by_cases hlt : j < N
      · have gj : (j : Int) < (N : Int) := by omega
        have gi : (i : Int) < (N : Int) := by omega
        obtain ⟨R, r1, r2, r3, o⟩ := HR.out
        obtain ⟨x, hx⟩ := at_lt (show j < l.length by have := HN.out; omega)
        have hRx : R[j]? = some x := by
          have e : (R.drop j)[0]? = (l.drop j)[0]? := by rw [r3]
          rw [List.getElem?_drop, List.getElem?_drop] at e
          exact e.trans hx
        obtain ⟨y, hy⟩ := at_lt (show i < R.length by omega)
        obtain ⟨x0, x1, x2, x3, -⟩ := OwnQ.at (pr := id) r1 o hRx
        obtain ⟨w7, hw7⟩ : ∃ W, wr.alloc (boxF x.1 x.2.1 x.2.2.1 x.2.2.2) = W := ⟨_, rfl⟩
        obtain ⟨b7, p0, p1, p2, p3, s7, c7⟩ := box_fp hw7
        obtain ⟨z0, z1⟩ := box_last hw7
        have hbw : base ≤ wr.heap.size := Nat.le_trans HZ.out.1 HB.out.size
        have m0 := ((HB.out.trans (b7.mono hbw)).cell (p := ⟨B, 0, none⟩) HZ.out.2).trans HC.out
        have C := Lib.hid (delc_any x B sf w7 m0)
        obtain ⟨q, hq⟩ : ∃ q, useP sf x = q := ⟨_, rfl⟩
        rw [hq] at C
        have tk := take_at l j x hx
        have O7 := Lib.hid (o.below b7)
        have B7 := Lib.hid (HB.out.trans (b7.mono hbw))
        have S7 : Hid (wr.heap.size < w7.heap.size) := Lib.hid s7
        have C7 := Lib.hid c7
        have RR : Hid (R.length = N ∧ R.take i = (l.take j).filter (useP sf) ∧ R.drop j = l.drop j ∧ R[i]? = some y) := Lib.hid ⟨r1, r2, r3, hy⟩
        have HW : Hid (base ≤ w7.heap.size) := Lib.hid (Nat.le_trans hbw b7.size)
        have HX := Lib.hid hx
        have HQ := Lib.hid hq
        have TK := Lib.hid tk
        clear hx hRx hy b7 c7 s7 r1 r2 r3 o hq tk m0 HR HB hbw
        cases q with
        | true =>
          go_wp2_with fail
          refine C.out.mono ?_
          rintro e w8 ⟨rfl, b8⟩
          have o8 := O7.out.below b8
          obtain ⟨y0, y1, y2, y3, f0, f1, f2, f3⟩ := OwnQ.at (pr := id) RR.out.1 o8 RR.out.2.2.2
          obtain ⟨q0, q1, q2, q3⟩ := row_fp ((b8.block wr.heap.size S7.out).trans C7.out)
          have K0 := OwnQ.put (pr := id) RR.out.1 o8 (i := i) (by omega) x
          have K1 := put4_below (OwnQ.base (pr := id) o8).1 (B7.out.trans (b8.mono HW.out)) (i * 4) x
          unfold put4 at K0 K1
          simp only [id_eq] at K0
          have K := Lib.hid (del_put RR.out.1 RR.out.2.1 RR.out.2.2.1 hij TK.out HQ.out hlt K0)
          have KB := Lib.hid K1
          have bj : j + 1 ≤ 100000000 := by omega
          clear C K0 K1 b8 o8 hw7 z0 z1 p0 p1 p2 p3
          go_wp2_with fail
          go_roundw
          case rel => exact ⟨i + 1, j + 1, by go_num, by go_num, by omega, by omega, K, KB⟩
          case measure => simp [intOf]; omega
        | false =>
          go_wp2_with fail
          refine C.out.mono ?_
          rintro e w8 ⟨rfl, b8⟩
          have o8 := O7.out.below b8
          have K : Hid (DelS w8 base g N c sf l i (j + 1)) := by
            refine ⟨R, RR.out.1, ?_, ?_, o8⟩
            · rw [TK.out, List.filter_append, List.filter_cons_of_neg (by rw [HQ.out]; simp), RR.out.2.1]
              simp
            · have := congrArg (List.drop 1) RR.out.2.2.1
              rw [List.drop_drop, List.drop_drop] at this
              exact this
          have KB := Lib.hid (B7.out.trans (b8.mono HW.out))
          clear C b8 o8 hw7 z0 z1 p0 p1 p2 p3
          go_wp2_with fail
          go_roundw
          case rel => exact ⟨i, j + 1, rfl, by go_num, by omega, by omega, K, KB⟩
          case measure => simp [intOf]; omega
      · have d : decide (j < N) = false := by rw [decide_eq_false_iff_not]; exact hlt
        obtain rfl : j = N := by omega
        obtain ⟨R, r1, r2, -, o⟩ := HR.out
        rw [List.take_of_length_le (l := l) (by have := HN.out; omega)] at r2
        obtain ⟨k1, k2, k3⟩ := own_clear o i hij
        rw [r2] at k2
        have K2 := Lib.hid k2
        have K3 := Lib.hid (k3 w HB.out)
        have F1 := fps_from g j c i hij hcap
        have F2 := fps_to g j c i (by omega) hcap
        clear hlt HR o k2 k3 r1 r2
        go_wp2_with fail
        go_ret
        exact ⟨_, rfl, K2.out, K3.out⟩
end Go.Proofs.Ytibakhobgfiklaa
