/-
  The law ThroughChain: each answers true for every input; nothing that existed before the call has changed behind it. Condition: lengths of 63 bits.
-/
import Derived.Test.YtkballjadkhepaaTmO
namespace Go.Proofs.Ytkballjadkhepaa
open Go.RowKit

theorem not_before {c : List Int} (h : c.Nodup) {k : Nat} {x : Int} (hx : c[k]? = some x) : x ∉ c.take k := by
  have h1 : (c.take (k + 1)).Nodup := h.sublist (List.take_sublist _ _)
  rw [take_at c k x hx, List.nodup_append] at h1
  exact fun hm => h1.2.2 x hm x (List.mem_singleton.2 rfl) rfl
set_option maxRecDepth 100000 in
set_option maxHeartbeats 4000000 in
theorem chain_law (vl : Value) (l : List Th) (hl : l.length ≤ 9223372036854775807) (hs : Th64 l) (vu : Value) (u : List Gt) (hu : u.length ≤ 9223372036854775807) (_ : Gus64 u) (vt : Value) (ts : List Tp) (ht : ts.length ≤ 9223372036854775807) (_ : OkTs ts) (vf : Value) (f : List Fq) (hf : f.length ≤ 9223372036854775807) (_ : OkFs f) (st : Int) (t : Int) (t1 : -9223372036854775808 ≤ t) (t2 : t ≤ 9223372036854775807) (w : World) (h1 : LstH w vl l) (h2 : LstU w vu u) (h3 : LstTp w vt ts) (h4 : LstF w vf f) : Calls Try.prog 8 #[.agg #[vl, vu, vt, vf, .int .i64 st], .int .i64 t] w fun e w' => e = .returned (.bool true) ∧ Below w.heap.size w w' := by
  obtain ⟨A1, c1, rfl, -, -, -⟩ := id h1
  obtain ⟨A2, c2, rfl, -, -, -⟩ := id h2
  obtain ⟨⟨A3, c3, rfl, -, -, -⟩, -⟩ := id h3
  obtain ⟨A4, c4, rfl, -, -, -⟩ := id h4
  obtain ⟨w7, hw7⟩ : ∃ x, w.alloc (boxB (.slice A1 l.length c1) (.slice A2 u.length c2) (.slice A3 ts.length c3) (.slice A4 f.length c4) st) = x := ⟨_, rfl⟩
  obtain ⟨b7, s7, r7⟩ := box_tb hw7
  obtain ⟨q0, q1, q2, q3, q4⟩ := row_tb r7
  have B7 := Lib.hid b7
  have R7 := Lib.hid r7
  have S7 := Lib.hid s7
  have C1 := Lib.hid (small_any (.slice A1 l.length c1) l (.slice A2 u.length c2) u (.slice A3 ts.length c3) ts (.slice A4 f.length c4) f st hl hu ht hf w7 (h1.below b7) (h2.below b7) (h3.below b7) (h4.below b7))
  have H1 := Lib.hid h1
  have H2 := Lib.hid h2
  have H3 := Lib.hid h3
  have H4 := Lib.hid h4
  clear b7 s7 r7 h1 h2 h3 h4
  cases hsm : smF l u ts f with
  | false =>
    rw [hsm] at C1
    clear hsm t1 t2
    go_enter Try.func8, Try.ntmps8
    go_wp2_with fail
    refine C1.out.mono ?_
    rintro e w1 ⟨rfl, b1⟩
    have B1 : Hid (Below w.heap.size w w1) := B7.out.trans (b1.mono B7.out.size)
    have R1 : Hid (w1.heap[w.heap.size]? = some (boxB (.slice A1 l.length c1) (.slice A2 u.length c2) (.slice A3 ts.length c3) (.slice A4 f.length c4) st)) := (b1.block _ S7.out).trans R7.out
    have S1 : Hid (w.heap.size < w1.heap.size) := Nat.lt_of_lt_of_le S7.out b1.size
    clear b1 C1 R7 S7 q0 q1 q2 q3 q4 hw7
    obtain ⟨q0, q1, q2, q3, q4⟩ := row_tb R1.out
    go_wp2_with fail
    refine (ex_any _).mono ?_
    rintro e x9 ⟨rfl, y9⟩
    have B9 : Hid (Below w.heap.size w x9) := B1.out.trans (y9.mono B1.out.size)
    clear y9
    go_wp2_with fail
    go_ret
    exact ⟨rfl, B9.out⟩
  | true =>
  rw [hsm] at C1
  obtain ⟨⟨hl1, hu1, ht1, hf1⟩, hts⟩ := sm_is hsm
  clear hsm
  by_cases n1 : t < 0
  · clear t1 t2
    go_enter Try.func8, Try.ntmps8
    go_wp2_with fail
    refine C1.out.mono ?_
    rintro e w1 ⟨rfl, b1⟩
    have B1 : Hid (Below w.heap.size w w1) := B7.out.trans (b1.mono B7.out.size)
    have R1 : Hid (w1.heap[w.heap.size]? = some (boxB (.slice A1 l.length c1) (.slice A2 u.length c2) (.slice A3 ts.length c3) (.slice A4 f.length c4) st)) := (b1.block _ S7.out).trans R7.out
    have S1 : Hid (w.heap.size < w1.heap.size) := Nat.lt_of_lt_of_le S7.out b1.size
    clear b1 C1 R7 S7 q0 q1 q2 q3 q4 hw7
    obtain ⟨q0, q1, q2, q3, q4⟩ := row_tb R1.out
    go_wp2_with fail
    refine (ex_any _).mono ?_
    rintro e x9 ⟨rfl, y9⟩
    have B9 : Hid (Below w.heap.size w x9) := B1.out.trans (y9.mono B1.out.size)
    clear y9
    go_wp2_with fail
    go_ret
    exact ⟨rfl, B9.out⟩
  have g1 : decide (t < 0) = false := decide_eq_false n1
  by_cases n2 : (ts.length : Int) ≤ t
  · clear t1 t2
    go_enter Try.func8, Try.ntmps8
    go_wp2_with fail
    refine C1.out.mono ?_
    rintro e w1 ⟨rfl, b1⟩
    have B1 : Hid (Below w.heap.size w w1) := B7.out.trans (b1.mono B7.out.size)
    have R1 : Hid (w1.heap[w.heap.size]? = some (boxB (.slice A1 l.length c1) (.slice A2 u.length c2) (.slice A3 ts.length c3) (.slice A4 f.length c4) st)) := (b1.block _ S7.out).trans R7.out
    have S1 : Hid (w.heap.size < w1.heap.size) := Nat.lt_of_lt_of_le S7.out b1.size
    clear b1 C1 R7 S7 q0 q1 q2 q3 q4 hw7
    obtain ⟨q0, q1, q2, q3, q4⟩ := row_tb R1.out
    go_wp2_with fail
    refine (ex_any _).mono ?_
    rintro e x9 ⟨rfl, y9⟩
    have B9 : Hid (Below w.heap.size w x9) := B1.out.trans (y9.mono B1.out.size)
    clear y9
    go_wp2_with fail
    go_ret
    exact ⟨rfl, B9.out⟩
  have g2 : decide ((ts.length : Int) ≤ t) = false := decide_eq_false n2
  have hlen : (ts.map tcT).length = ts.length := List.length_map ..
  have htr : 0 ≤ t ∧ t < ((ts.map tcT).length : Int) := by rw [hlen]; omega
  have K := Lib.hid (fun W (hW : Below w.heap.size w W) => kchkh_any (.slice A1 l.length c1) l (by omega) hs (.slice A3 ts.length c3) ts hts (.slice A4 f.length c4) f (by omega) W (H1.out.below hW) (H3.out.below hW) (H4.out.below hW))
  have C := Lib.hid (fun W (hW : Below w.heap.size w W) => kchain_any (.slice A1 l.length c1) l (by omega) hs t ⟨t1, t2⟩ W (H1.out.below hW))
  have OK := Lib.hid (ch_ok l t)
  have LC := ch_len l t
  generalize (chkH (ts.map tcT) f l).1 = p at K
  by_cases acc : ¬ (chkH (ts.map tcT) f l).2 = 0
  · have ne := bne_true acc
    generalize (chkH (ts.map tcT) f l).2 = q at K ne
    generalize chT l t = c at C OK LC
    clear acc hlen htr t1 t2
    go_enter Try.func8, Try.ntmps8
    go_wp2_with fail
    refine C1.out.mono ?_
    rintro e w1 ⟨rfl, b1⟩
    have B1 : Hid (Below w.heap.size w w1) := B7.out.trans (b1.mono B7.out.size)
    have R1 : Hid (w1.heap[w.heap.size]? = some (boxB (.slice A1 l.length c1) (.slice A2 u.length c2) (.slice A3 ts.length c3) (.slice A4 f.length c4) st)) := (b1.block _ S7.out).trans R7.out
    have S1 : Hid (w.heap.size < w1.heap.size) := Nat.lt_of_lt_of_le S7.out b1.size
    clear b1 C1 R7 S7 q0 q1 q2 q3 q4 hw7
    obtain ⟨q0, q1, q2, q3, q4⟩ := row_tb R1.out
    go_wp2_with fail
    refine (K.out w1 B1.out).mono ?_
    rintro e w2 ⟨rfl, b2⟩
    have B2 : Hid (Below w.heap.size w w2) := B1.out.trans (b2.mono B1.out.size)
    have R2 : Hid (w2.heap[w.heap.size]? = some (boxB (.slice A1 l.length c1) (.slice A2 u.length c2) (.slice A3 ts.length c3) (.slice A4 f.length c4) st)) := (b2.block _ S1.out).trans R1.out
    have S2 : Hid (w.heap.size < w2.heap.size) := Nat.lt_of_lt_of_le S1.out b2.size
    clear b2 R1 S1 q0 q1 q2 q3 q4
    obtain ⟨q0, q1, q2, q3, q4⟩ := row_tb R2.out
    clear K
    go_wp2_with fail
    refine (C.out w2 B2.out).mono ?_
    rintro e w3 ⟨u3, rfl, -, b3⟩
    have B3 : Hid (Below w.heap.size w w3) := B2.out.trans (b3.mono B2.out.size)
    have R3 : Hid (w3.heap[w.heap.size]? = some (boxB (.slice A1 l.length c1) (.slice A2 u.length c2) (.slice A3 ts.length c3) (.slice A4 f.length c4) st)) := (b3.block _ S2.out).trans R2.out
    have S3 : Hid (w.heap.size < w3.heap.size) := Nat.lt_of_lt_of_le S2.out b3.size
    clear b3 R2 S2 q0 q1 q2 q3 q4
    obtain ⟨q0, q1, q2, q3, q4⟩ := row_tb R3.out
    clear C
    go_wp2_with fail
    refine (ex_any _).mono ?_
    rintro e x9 ⟨rfl, y9⟩
    have B9 : Hid (Below w.heap.size w x9) := B3.out.trans (y9.mono B3.out.size)
    clear y9
    go_wp2_with fail
    go_ret
    exact ⟨rfl, B9.out⟩
  have acc := Decidable.not_not.1 acc
  have LE := accH_le acc htr
  have EN := Lib.hid (fun x (hx : (chT l t)[(chT l t).length - 1]? = some x) => accH_end acc hx)
  have IN := Lib.hid (fun j x (hx : (chT l t)[j]? = some x) => accH_in acc htr hx)
  have PS := Lib.hid (fun j x y (hx : (chT l t)[j]? = some x) (hy : (chT l t)[j + 1]? = some y) => accH_pass acc hx hy)
  rw [hlen] at LE IN
  rw [acc] at K
  generalize chT l t = c at C OK LC LE EN IN PS
  have hpos := OK.out.len.1
  have g3 : ((c.length : Int) == 0) = false := beq_false (by omega)
  have g3' : (c.length == 0) = false := by rw [beq_eq_false_iff_ne]; omega
  have g4 : decide ((ts.length : Int) < (c.length : Int)) = false := decide_eq_false (by omega)
  have g4' : decide (ts.length < c.length) = false := decide_eq_false (by omega)
  have g5 := neq_false (a := t) (b := t) rfl
  have g6 : (0 : Int) < (c.length : Int) := by omega
  have HTS := Lib.hid hts
  clear acc hlen htr hts
  go_enter Try.func8, Try.ntmps8
  go_wp2_with fail
  refine C1.out.mono ?_
  rintro e w1 ⟨rfl, b1⟩
  have B1 : Hid (Below w.heap.size w w1) := B7.out.trans (b1.mono B7.out.size)
  have R1 : Hid (w1.heap[w.heap.size]? = some (boxB (.slice A1 l.length c1) (.slice A2 u.length c2) (.slice A3 ts.length c3) (.slice A4 f.length c4) st)) := (b1.block _ S7.out).trans R7.out
  have S1 : Hid (w.heap.size < w1.heap.size) := Nat.lt_of_lt_of_le S7.out b1.size
  clear b1 C1 R7 S7 q0 q1 q2 q3 q4 hw7
  obtain ⟨q0, q1, q2, q3, q4⟩ := row_tb R1.out
  go_wp2_with fail
  refine (K.out w1 B1.out).mono ?_
  rintro e w2 ⟨rfl, b2⟩
  have B2 : Hid (Below w.heap.size w w2) := B1.out.trans (b2.mono B1.out.size)
  have R2 : Hid (w2.heap[w.heap.size]? = some (boxB (.slice A1 l.length c1) (.slice A2 u.length c2) (.slice A3 ts.length c3) (.slice A4 f.length c4) st)) := (b2.block _ S1.out).trans R1.out
  have S2 : Hid (w.heap.size < w2.heap.size) := Nat.lt_of_lt_of_le S1.out b2.size
  clear b2 R1 S1 q0 q1 q2 q3 q4
  obtain ⟨q0, q1, q2, q3, q4⟩ := row_tb R2.out
  clear K
  go_wp2_with fail
  refine (C.out w2 B2.out).mono ?_
  rintro e w3 ⟨u3, rfl, o3, b3⟩
  have L3 := Lib.hid (OwnI.lst o3)
  have B3 : Hid (Below w.heap.size w w3) := B2.out.trans (b3.mono B2.out.size)
  have R3 : Hid (w3.heap[w.heap.size]? = some (boxB (.slice A1 l.length c1) (.slice A2 u.length c2) (.slice A3 ts.length c3) (.slice A4 f.length c4) st)) := (b3.block _ S2.out).trans R2.out
  have S3 : Hid (w.heap.size < w3.heap.size) := Nat.lt_of_lt_of_le S2.out b3.size
  clear b3 R2 S2 q0 q1 q2 q3 q4
  obtain ⟨q0, q1, q2, q3, q4⟩ := row_tb R3.out
  clear C o3
  obtain ⟨xl, hxl⟩ := at_lt (l := c) (k := c.length - 1) (by omega)
  obtain ⟨Ac, cc, rfl, -, -, -⟩ := id L3.out
  obtain ⟨gb, go_, rfl, hgb, m0⟩ := int_cell L3.out OK.out.first
  have HXL := Lib.hid hxl
  obtain ⟨z, hz⟩ : ∃ z, c.length - 1 = z := ⟨_, rfl⟩
  rw [hz] at hxl
  obtain ⟨gb', go', e', -, m1⟩ := int_cell L3.out hxl
  cases e'
  rw [Nat.add_zero] at m0
  have e1 : (c.length : Int) - 1 = (z : Int) := by omega
  have zle : z ≤ 150 := by omega
  have zn : (z : Int) < (c.length : Int) := by omega
  have wk : IntKind.i64.wrap (z : Int) = (z : Int) := IntWalk.i64_in _ (by omega)
  have NX := Lib.hid (fun W (hW : Below w3.heap.size w3 W) => far_one (knx_any (.slice A1 l.length c1) l (by omega) xl W (H1.out.below (B3.out.trans (hW.mono B3.out.size)))) hW)
  rw [nxB_no (EN.out xl HXL.out)] at NX
  generalize nxV xl l = xv at NX
  have HGB := Lib.hid hgb
  clear hxl hz hgb HXL EN
  go_wp2_with fail
  go_region_held3 (fun W => W.cell? ⟨w.heap.size, 0, none⟩ = some (.slice A1 l.length c1) ∧ W.cell? ⟨gb, go_ + z, none⟩ = some (.int .i64 xl)) (first | assumption | (exact ⟨by assumption, by assumption⟩)) (first
    | (go_at_call 17; with_reducible refine (NX.out _ (by first | exact Below.refl _ _ | exact (Below.refl _ _).drew)).mono ?_; rintro e w4 ⟨rfl, b4⟩; have y0 := (b4.cell (p := ⟨w.heap.size, 0, none⟩) S3.out).trans q0; have y1 := (b4.cell (p := ⟨gb, go_ + z, none⟩) HGB.out).trans m1))
  have L4 := Lib.hid (L3.out.below b4)
  clear y0 y1 NX m0 m1 g3 g3' g4 g4' g5 g6 e1 zle zn wk L3 HGB
  have B4 : Hid (Below w.heap.size w w4) := B3.out.trans (b4.mono B3.out.size)
  have R4 : Hid (w4.heap[w.heap.size]? = some (boxB (.slice A1 l.length c1) (.slice A2 u.length c2) (.slice A3 ts.length c3) (.slice A4 f.length c4) st)) := (b4.block _ S3.out).trans R3.out
  have S4 : Hid (w.heap.size < w4.heap.size) := Nat.lt_of_lt_of_le S3.out b4.size
  clear b4 R3 S3 q0 q1 q2 q3 q4
  obtain ⟨q0, q1, q2, q3, q4⟩ := row_tb R4.out
  have T4 := Lib.hid (H3.out.below B4.out)
  clear g1 g2
  go_wp2_with fail
  go_loopw [79] (fun i wr => ∃ k : Nat, i = .int .i64 k ∧ k ≤ c.length ∧ Hid (∃ n, wr = w4.drewN n)) (fun i _ => c.length - (intOf i).toNat)
  case atStart => exact ⟨0, rfl, Nat.zero_le _, Lib.hid ⟨0, rfl⟩⟩
  case round =>
    obtain ⟨k, rfl, hk, hn⟩ := hrel
    have hbw := drew_below hn.out
    have BR : Hid (Below w.heap.size w wr) := B4.out.trans (hbw.mono B4.out.size)
    have LR := Lib.hid (L4.out.below hbw)
    have TR := Lib.hid (T4.out.below hbw)
    obtain ⟨q0, q1, q2, q3, q4⟩ := row_tb ((hbw.block _ S4.out).trans R4.out)
    by_cases hlt : k < c.length
    · obtain ⟨x, hx⟩ := at_lt hlt
      obtain ⟨gb', go', e', -, m0⟩ := int_cell LR.out hx
      cases e'
      have hin := IN.out k x hx
      obtain ⟨xi, rfl⟩ : ∃ i : Nat, x = (i : Int) := ⟨x.toNat, by omega⟩
      have gk : (k : Int) < (c.length : Int) := by omega
      have g1 : decide ((xi : Int) < 0) = false := decide_eq_false (by omega)
      have g2 : decide ((ts.length : Int) ≤ (xi : Int)) = false := decide_eq_false (by omega)
      have g2' : decide (ts.length ≤ xi) = false := decide_eq_false (by omega)
      have g3 : (xi : Int) < (ts.length : Int) := hin.2
      have xle : xi ≤ 150 := by omega
      clear hin
      by_cases k0 : k = 0
      · subst k0
        rw [Nat.add_zero] at m0
        obtain ⟨v, sv, lv⟩ := ints_to LR.out 0 (Nat.zero_le _) 0 rfl
        have HA := Lib.hid (rhas_any v (c.take 0) (by rw [List.length_take]; omega) (xi : Int) wr lv)
        rw [decide_eq_false (not_before OK.out.nod hx)] at HA
        clear hx hbw lv
        go_wp2_with fail
        refine HA.out.mono ?_
        rintro e w' ⟨rfl, rfl⟩
        clear HA
        go_wp2_with fail
        go_roundw
        case rel => exact ⟨1, by go_num, by omega, hn⟩
        case measure => simp [intOf]; omega
      obtain ⟨v, sv, lv⟩ := ints_to LR.out k (by omega) (k : Int) rfl
      have HA := Lib.hid (rhas_any v (c.take k) (by rw [List.length_take]; omega) (xi : Int) wr lv)
      rw [decide_eq_false (not_before OK.out.nod hx)] at HA
      clear lv
      obtain ⟨y, hy⟩ := at_lt (l := c) (k := k - 1) (by omega)
      have hin2 := IN.out _ y hy
      obtain ⟨yi, rfl⟩ : ∃ i : Nat, y = (i : Int) := ⟨y.toNat, by omega⟩
      have hps := PS.out (k - 1) (yi : Int) (xi : Int) hy (by rw [show k - 1 + 1 = k by omega]; exact hx)
      obtain ⟨j, hj⟩ : ∃ j, k - 1 = j := ⟨_, rfl⟩
      rw [hj] at hy
      obtain ⟨gb', go', e', -, m1⟩ := int_cell LR.out hy
      cases e'
      have e1 : (k : Int) - 1 = (j : Int) := by omega
      have jle : j ≤ 150 := by omega
      have jn : (j : Int) < (c.length : Int) := by omega
      have wk : IntKind.i64.wrap (j : Int) = (j : Int) := IntWalk.i64_in _ (by omega)
      have gk0 : ((k : Int) == 0) = false := beq_false (by omega)
      have gk0' : (k == 0) = false := by rw [beq_eq_false_iff_ne]; omega
      have g4 : (yi : Int) < (ts.length : Int) := hin2.2
      have yle : yi ≤ 150 := by omega
      obtain ⟨⟨x1, x2, x3, x4, x5, xcl⟩, hxt⟩ := at_lt (l := ts) (k := xi) (by omega)
      obtain ⟨⟨y1, y2, y3, y4, y5, ycl⟩, hyt⟩ := at_lt (l := ts) (k := yi) (by omega)
      rw [tc_at hxt, tc_at hyt] at hps
      obtain ⟨⟨ls, la, ld, lo, lu⟩, ⟨fs, fa, fd, fo, fu⟩, hls, hfs, hst, htm⟩ := ps_good hps
      simp only at hls hfs hst htm
      obtain ⟨bx, ox, Bx, mx, ex', rfl, -, -, -, -, -, p4, lx, -, -⟩ := trip_at TR.out hxt rfl
      obtain ⟨by', oy, By, my, ey, rfl, -, -, -, -, -, r4, ly, -, -⟩ := trip_at TR.out hyt rfl
      subst ex'
      cases ey
      have hyl : ycl.length ≤ 1000000 := HTS.out _ (List.mem_iff_getElem?.2 ⟨_, hyt⟩)
      have hl1 := (List.getElem?_eq_some_iff.1 hls).1
      have hf1 := (List.getElem?_eq_some_iff.1 hfs).1
      obtain ⟨d, hd⟩ : ∃ d, ycl.length - 1 = d := ⟨_, rfl⟩
      rw [hd] at hls
      obtain ⟨b5, o5, rfl, -, s0, s1, -, -, -⟩ := five_at ly hls
      obtain ⟨b6, o6, rfl, -, v0, -, v2, -, -⟩ := five_at lx hfs
      rw [Nat.zero_mul, Nat.add_zero] at v0 v2
      have e2 : (ycl.length : Int) - 1 = (d : Int) := by omega
      have dle : d ≤ 1000000 := by omega
      have dn : (d : Int) < (ycl.length : Int) := by omega
      have wd : IntKind.i64.wrap (d : Int) = (d : Int) := IntWalk.i64_in _ (by omega)
      have h5 : ((ycl.length : Int) == 0) = false := beq_false (by omega)
      have h5' : (ycl.length == 0) = false := by rw [beq_eq_false_iff_ne]; omega
      have h6 : ((xcl.length : Int) == 0) = false := beq_false (by omega)
      have h6' : (xcl.length == 0) = false := by rw [beq_eq_false_iff_ne]; omega
      have xn : (0 : Int) < (xcl.length : Int) := by omega
      have xn' : 0 < xcl.length := by omega
      have h7 := neq_false hst
      have h8 : decide (fd < la) = false := decide_eq_false htm
      clear hx hy hps hxt hyt hls hfs hst htm hj hd hl1 hf1 lx ly hbw hin2 k0
      go_wp2_with fail
      refine HA.out.mono ?_
      rintro e w' ⟨rfl, rfl⟩
      clear HA
      go_wp2_with fail
      go_quiet (fail)
      generalize nq = na
      go_wp2_with fail
      go_quiet (fail)
      have D2 := drew_on (drew_on hn na) nq
      go_wp2_with fail
      go_roundw
      case rel => exact ⟨k + 1, by go_num, by omega, by first | exact D2 | (rw [World.drewN_drewN] at D2; exact D2)⟩
      case measure => simp [intOf]; omega
    · have dd : decide (k < c.length) = false := by rw [decide_eq_false_iff_not]; exact hlt
      clear hlt hbw
      go_wp2_with fail
      refine (ex_any _).mono ?_
      rintro e x9 ⟨rfl, y9⟩
      have B9 : Hid (Below w.heap.size w x9) := BR.out.trans (y9.mono BR.out.size)
      clear y9
      go_wp2_with fail
      go_ret
      exact ⟨rfl, B9.out⟩
end Go.Proofs.Ytkballjadkhepaa
