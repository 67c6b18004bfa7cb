/-
  firstError, Check: what each call answers; nothing that existed before the call has changed behind it. Condition: lists of at most 1000000 footpaths, their numbers of 64 bits.
-/
import Derived.Test.YtibakhobgfiklaaFpQ
import Derived.Test.YtibakhobgfiklaaFpE
namespace Go.Proofs.Ytibakhobgfiklaa
open Go.RowKit Go.Sort

/-- The footpaths' stops are numbers of 64 bits. -/
def L64 (l : List Fp) : Prop := ∀ x ∈ l, Ky64 (kyP x)
theorem ret_q {q : Int × Int} {a b : Int} (h : q = (a, b)) : Ending.returned (.tuple #[.int .i64 a, .int .i64 b]) = Ending.returned (.tuple #[.int .i64 q.1, .int .i64 q.2]) := by rw [h]
/-- A footpath in a box, one without its seconds in another. -/
theorem two_fp {w w7 w8 w9 : World} {a b s : Int} {f : Bool} (h7 : w.alloc (boxF a b s f) = w7) (h8 : w7.alloc (boxF a b s f) = w8) (h9 : w8.setCell ⟨w7.heap.size, 2, none⟩ (.int .i64 0) = w9) :
    (w8.cell? ⟨w7.heap.size, 2, none⟩ = some (.int .i64 s) ∧ w8.frozen? ⟨w7.heap.size, 2, none⟩ = false) ∧ w9.heap[w.heap.size]? = some (boxF a b s f) ∧ w9.heap[w7.heap.size]? = some (boxF a b 0 f) ∧ RowKit.Below w.heap.size w w9 ∧ w.heap.size < w7.heap.size := by
  obtain ⟨b7, -, -, -, -, s7, c7⟩ := box_fp h7
  obtain ⟨b8, -, -, q2, -, s8, c8⟩ := box_fp h8
  refine ⟨⟨q2, frozen_of_row _ _ 2 _ _ c8⟩, ?_, ?_, ?_, s7⟩
  · rw [← h9, RowKit.Below.heap_setCell _ _ _ _ (by show w.heap.size ≠ w7.heap.size; omega)]
    exact (b8.block _ s7).trans c7
  · rw [← h9]
    unfold World.setCell
    rw [Array.getElem?_modify, if_pos rfl, c8]
    rfl
  · rw [← h9]
    exact (b7.trans (b8.mono b7.size)).setCell b7.size _
set_option maxRecDepth 100000 in
set_option maxHeartbeats 4000000 in
theorem kfe_any (v : Value) (l : List Fp) (hl : l.length ≤ 1000000) (st : Int) (h64 : L64 l) (w : World) (h : LstF w v l) : Calls Try.prog 25 #[v, .int .i64 st] w fun e w' => e = .returned (.tuple #[.int .i64 ((vldP st l).1), .int .i64 ((vldP st l).2)]) ∧ Below w.heap.size w w' := by
  have hh := h
  obtain ⟨A, c, rfl, -⟩ := hh
  have H := Lib.hid h
  have H64 := Lib.hid h64
  obtain ⟨q, hq⟩ : ∃ q, vldP st l = q := ⟨_, rfl⟩
  rw [hq]
  obtain ⟨w1, hw1⟩ : ∃ W, w.alloc (.map #[] 0) = W := ⟨_, rfl⟩
  have b1 : RowKit.Below w.heap.size w w1 := by rw [← hw1]; exact (RowKit.Below.refl _ _).alloc (Nat.le_refl _) _
  have M1 : Hid (MapP w1 w.heap.size ((l.take 0).map kyP)) := by rw [← hw1]; exact MapP.made w
  have B1 := Lib.hid b1
  have Q1 : Hid (q = fbF (badP st) kyP ((l.take 0).map kyP) 0 (l.drop 0)) := Lib.hid hq.symm
  have hmm := @run_makeMap Try.prog
  clear h h64 hq b1
  go_enter Try.func25, Try.ntmps25
  go_wp2_with fail
  clear hmm
  go_loopw [13] (fun i wr => ∃ k : Nat, i = .int .i64 (k : Int) ∧ k ≤ l.length ∧ Hid (q = fbF (badP st) kyP ((l.take k).map kyP) k (l.drop k)) ∧ Hid (MapP wr w.heap.size ((l.take k).map kyP)) ∧ Hid (RowKit.Below w.heap.size w wr)) (fun i _ => l.length - (intOf i).toNat)
  case atStart => exact ⟨0, rfl, Nat.zero_le _, Q1, M1, B1⟩
  case round =>
    clear Q1 M1 B1 hw1
    obtain ⟨k, rfl, hk, HQ, HM, HB⟩ := hrel
    by_cases hlt : k < l.length
    · obtain ⟨⟨a, b, s, f⟩, hx⟩ := at_lt hlt
      obtain ⟨b', o, rfl, hb, m0, m1, m2, m3⟩ := four_at (H.out.below HB.out) hx
      have gk : (k : Int) < (l.length : Int) := by omega
      obtain ⟨w7, hw7⟩ : ∃ W, wr.alloc (boxF a b s f) = W := ⟨_, rfl⟩
      obtain ⟨w8, hw8⟩ : ∃ W, w7.alloc (boxF a b s f) = W := ⟨_, rfl⟩
      obtain ⟨w9, hw9⟩ : ∃ W, w8.setCell ⟨w7.heap.size, 2, none⟩ (.int .i64 0) = W := ⟨_, rfl⟩
      obtain ⟨⟨r2, r2f⟩, c9, d9, b9, z7⟩ := two_fp hw7 hw8 hw9
      have hb7 := box_fp hw7
      have hb8 := box_fp hw8
      obtain ⟨y0, y1⟩ := box_last hw7
      obtain ⟨x0, x1⟩ := box_last hw8
      have e0 := (hb8.1.cell (p := ⟨wr.heap.size, 0, none⟩) (by show wr.heap.size < _; omega)).trans hb7.2.1
      have e1 := (hb8.1.cell (p := ⟨wr.heap.size, 1, none⟩) (by show wr.heap.size < _; omega)).trans hb7.2.2.1
      have e2 := (hb8.1.cell (p := ⟨wr.heap.size, 2, none⟩) (by show wr.heap.size < _; omega)).trans hb7.2.2.2.1
      have e3 := (hb8.1.cell (p := ⟨wr.heap.size, 3, none⟩) (by show wr.heap.size < _; omega)).trans hb7.2.2.2.2.1
      obtain ⟨-, t0, t1, t2, t3, -, -⟩ := hb7
      obtain ⟨p0, p1, p2, p3⟩ := row_fp c9
      obtain ⟨q0, q1, q2, q3⟩ := row_fp d9
      have B9 := Lib.hid (HB.out.trans (b9.mono HB.out.size))
      have M9 := Lib.hid (HM.out.below b9)
      have hky : Ky64 (a, b, f) := H64.out _ (List.mem_iff_getElem?.2 ⟨k, hx⟩)
      have IA := Lib.hid (fun W => isstop_any a st W)
      have IB := Lib.hid (fun W => isstop_any b st W)
      have IS := Lib.hid (fun W => iswalk_any s W)
      clear hb hb8 b9 c9 d9 HB HM z7
      -- the cases
      by_cases h1 : ¬ (0 ≤ a ∧ a < st)
      · rw [decide_eq_false h1] at IA
        have R := Lib.hid (fb_stop HQ.out hx (badP_from (x := (a, b, s, f)) h1) (by decide))
        clear HQ hx
        go_wp2_with fail
        refine (IA.out _).mono ?_
        rintro e w' ⟨rfl, rfl⟩
        go_wp2_with fail
        go_ret2
        exact ⟨ret_q R.out, B9.out⟩
      have h1 := Decidable.not_not.1 h1
      rw [decide_eq_true h1] at IA
      by_cases h2 : ¬ (0 ≤ b ∧ b < st)
      · rw [decide_eq_false h2] at IB
        have R := Lib.hid (fb_stop HQ.out hx (badP_to (x := (a, b, s, f)) h2) (by decide))
        clear HQ hx
        go_wp2_with fail
        refine (IA.out _).mono ?_
        rintro e w' ⟨rfl, rfl⟩
        go_wp2_with fail
        refine (IB.out _).mono ?_
        rintro e w' ⟨rfl, rfl⟩
        go_wp2_with fail
        go_ret2
        exact ⟨ret_q R.out, B9.out⟩
      have h2 := Decidable.not_not.1 h2
      rw [decide_eq_true h2] at IB
      by_cases h3 : a = b
      · have g := beq_true h3
        have R := Lib.hid (fb_stop HQ.out hx (badP_same (x := (a, b, s, f)) h3) (by decide))
        clear HQ hx h3
        go_wp2_with fail
        refine (IA.out _).mono ?_
        rintro e w' ⟨rfl, rfl⟩
        go_wp2_with fail
        refine (IB.out _).mono ?_
        rintro e w' ⟨rfl, rfl⟩
        go_wp2_with fail
        go_ret2
        exact ⟨ret_q R.out, B9.out⟩
      have g := beq_false h3
      by_cases h4 : ¬ (1 ≤ s ∧ s ≤ 14400)
      · rw [decide_eq_false h4] at IS
        have R := Lib.hid (fb_stop HQ.out hx (badP_range (x := (a, b, s, f)) h1 h2 h3 h4) (by decide))
        clear HQ hx
        go_wp2_with fail
        refine (IA.out _).mono ?_
        rintro e w' ⟨rfl, rfl⟩
        go_wp2_with fail
        refine (IB.out _).mono ?_
        rintro e w' ⟨rfl, rfl⟩
        go_wp2_with fail
        refine (IS.out _).mono ?_
        rintro e w' ⟨rfl, rfl⟩
        go_wp2_with fail
        go_ret2
        exact ⟨ret_q R.out, B9.out⟩
      have h4 := Decidable.not_not.1 h4
      rw [decide_eq_true h4] at IS
      have lk := M9.out.look (a, b, f) hky
      by_cases h5 : kyP (a, b, s, f) ∈ (l.take k).map kyP
      · have lk' := lk.trans (by rw [decide_eq_true (show (a, b, f) ∈ (l.take k).map kyP from h5)])
        clear lk
        have R := Lib.hid (fb_stop HQ.out hx (badP_twice (x := (a, b, s, f)) h1 h2 h3 h4 h5) (by decide))
        clear HQ hx
        go_wp2_with fail
        refine (IA.out _).mono ?_
        rintro e w' ⟨rfl, rfl⟩
        go_wp2_with fail
        refine (IB.out _).mono ?_
        rintro e w' ⟨rfl, rfl⟩
        go_wp2_with fail
        refine (IS.out _).mono ?_
        rintro e w' ⟨rfl, rfl⟩
        go_wp2_with fail
        go_ret2
        exact ⟨ret_q R.out, B9.out⟩
      have lk' := lk.trans (by rw [decide_eq_false (show (a, b, f) ∉ (l.take k).map kyP from h5)])
      clear lk
      obtain ⟨w10, hrun, m10, g10⟩ := M9.out.update (a, b, f) hky (by rw [List.length_map, List.length_take]; omega)
      have N := Lib.hid (fb_next HQ.out hx (badP_ok (x := (a, b, s, f)) h1 h2 h3 h4 h5))
      have M10 : Hid (MapP w10 w.heap.size ((l.take (k + 1)).map kyP)) := by
        show MapP _ _ _
        rw [take_at l k _ hx, List.map_append]
        exact m10
      have B10 : Hid (RowKit.Below w.heap.size w w10) := B9.out.grown g10 B9.out.size (fun j hj => by cases hj; exact Nat.le_refl _)
      clear HQ hx h5 m10 g10
      go_wp2_with fail
      refine (IA.out _).mono ?_
      rintro e w' ⟨rfl, rfl⟩
      go_wp2_with fail
      refine (IB.out _).mono ?_
      rintro e w' ⟨rfl, rfl⟩
      go_wp2_with fail
      refine (IS.out _).mono ?_
      rintro e w' ⟨rfl, rfl⟩
      go_wp2_with fail
      go_roundw
      case rel => exact ⟨k + 1, by go_num, by omega, N, M10, B10⟩
      case measure => simp [intOf]; omega
    · have R : Hid (q = (0, 0)) := fb_done HQ.out (by omega)
      have d : decide (k < l.length) = false := by rw [decide_eq_false_iff_not]; exact hlt
      clear hlt HQ HM
      go_wp2_with fail
      go_ret2
      exact ⟨ret_q R.out, HB.out⟩
set_option maxHeartbeats 1000000 in
theorem kchk_any (v : Value) (l : List Fp) (hl : l.length ≤ 1000000) (st : Int) (h64 : L64 l) (w : World) (h : LstF w v l) : Calls Try.prog 12 #[v, .int .i64 st] w fun e w' => e = .returned (.tuple #[.int .i64 ((chkP st l).1), .int .i64 ((chkP st l).2)]) ∧ Below w.heap.size w w' := by
  have C := Lib.hid (kfe_any v l hl st h64 w h)
  obtain ⟨A, c, rfl, -⟩ := h
  by_cases hm : 512 < l.length
  · have g : (512 : Int) < (l.length : Int) := by omega
    rw [chkP_many hm]
    clear hm C
    go_enter Try.func12, Try.ntmps12
    go_wp2_with fail
    go_ret2
    exact ⟨rfl, RowKit.Below.refl _ _⟩
  · have g : decide ((512 : Int) < (l.length : Int)) = false := decide_eq_false (by omega)
    rw [chkP_few hm]
    clear hm
    go_enter Try.func12, Try.ntmps12
    go_wp2_with fail
    refine C.out.mono ?_
    rintro e w1 ⟨rfl, b1⟩
    have B1 := Lib.hid b1
    clear b1 C
    go_wp2_with fail
    go_ret2
    exact ⟨rfl, B1.out⟩
end Go.Proofs.Ytibakhobgfiklaa
