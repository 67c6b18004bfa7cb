/-
  The law ShortestTriangle: it answers true for every input; nothing that existed before the call has changed behind it. Condition: none.
-/
import Derived.Test.YtahbgafjljfndaaTSame
namespace Go.Proofs.Ytahbgafjljfndaa
open Go.RowKit

/-! ### Distances as numbers -/
def dst (N : Nat) (L : List Ed) (i k : Nat) : Int := (distL N L i).getD k (-1)
theorem dst_at {N : Nat} {L : List Ed} {i k : Nat} (h : k < N) : (distL N L i)[k]? = some (dst N L i k) := by
  obtain ⟨x, hx⟩ := at_lt (l := distL N L i) (k := k) (by rw [distL_length]; exact h)
  unfold dst
  rw [getD_of hx, hx]
theorem dst_is {N : Nat} {L : List Ed} (hl : Inn L N) (hn : N ≤ 64) (hw : ∀ e ∈ L, e.2.2 ≤ 1073741824) {i k : Nat} (hi : i < N) (hk : k < N) : (dst N L i k = -1 ∧ ∀ j W, ¬ Wl L k j i W) ∨ ∃ W : Nat, dst N L i k = (W : Int) ∧ Dist L k i W ∧ W < 68719476736 := by
  rcases distL_spec hl hi (by omega) k hk with ⟨x, hx, rfl, hno⟩ | ⟨W, hW, hd⟩
  · exact .inl ⟨getD_of hx, hno⟩
  · refine .inr ⟨W, getD_of hW, hd, ?_⟩
    have ht : Inn (turnL L) N ∧ ∀ e ∈ turnL L, e.2.2 ≤ 1073741824 := by
      refine ⟨hl.turn, fun e he => ?_⟩
      obtain ⟨x, hx, rfl⟩ := List.mem_map.1 he
      exact hw x hx
    obtain ⟨c, hc⟩ := at_lt (l := costL N (turnL L) i) (k := k) (by rw [costL_length]; exact hk)
    have e1 : (distL N L i)[k]? = some (dist1 c) := by unfold distL; rw [List.getElem?_map, hc]; rfl
    rw [hW] at e1
    have e2 : (W : Int) = dist1 c := Option.some.inj e1
    rcases cost_top ht.1 hi hn ht.2 k with h | ⟨m, h, _, h2, _⟩
    · rw [getD_of hc] at h
      rw [h] at e2
      unfold dist1 at e2
      simp at e2
    · rw [getD_of hc] at h
      rw [h, dist1_pos (by omega)] at e2
      omega
theorem dst_self {N : Nat} {L : List Ed} (hl : Inn L N) (hn : N ≤ 64) (hw : ∀ e ∈ L, e.2.2 ≤ 1073741824) {i : Nat} (hi : i < N) : dst N L i i = 0 := by
  rcases dst_is hl hn hw hi hi with ⟨_, hno⟩ | ⟨W, h, hd, _⟩
  · exact absurd ⟨rfl, rfl⟩ (hno 0 0)
  · rw [h, hd.uniq (Dist.self L i)]; rfl
theorem dst_edge {N : Nat} {L : List Ed} (hl : Inn L N) (hn : N ≤ 64) (hw : ∀ e ∈ L, e.2.2 ≤ 1073741824) {i k z : Nat} (he : (i, k, z) ∈ L) : 0 ≤ dst N L i k ∧ dst N L i k ≤ (z : Int) := by
  have hin := hl _ he
  simp only at hin
  rcases dst_is hl hn hw hin.1 hin.2 with ⟨_, hno⟩ | ⟨W, h, hd, _⟩
  · exact absurd ⟨k, z, 0, he, ⟨rfl, rfl⟩, rfl⟩ (hno 1 (0 + z))
  · have := hd.edge he
    omega
theorem dst_tri {N : Nat} {L : List Ed} (hl : Inn L N) (hn : N ≤ 64) (hw : ∀ e ∈ L, e.2.2 ≤ 1073741824) {i k m : Nat} (hi : i < N) (hk : k < N) (hm : m < N) (h1 : 0 ≤ dst N L i k) (h2 : 0 ≤ dst N L k m) : 0 ≤ dst N L i m ∧ dst N L i m ≤ dst N L i k + dst N L k m := by
  rcases dst_is hl hn hw hi hk with ⟨h, _⟩ | ⟨U, h, hd, _⟩
  · omega
  · rcases dst_is hl hn hw hk hm with ⟨h', _⟩ | ⟨V, h', hd', _⟩
    · omega
    · rcases dst_is hl hn hw hi hm with ⟨_, hno⟩ | ⟨W, h'', hd'', _⟩
      · obtain ⟨j, hj⟩ := hd.1
        obtain ⟨j', hj'⟩ := hd'.1
        exact absurd (hj.app hj') (hno _ _)
      · have := hd.tri hd' hd''
        omega
theorem dst_rng {N : Nat} {L : List Ed} (hl : Inn L N) (hn : N ≤ 64) (hw : ∀ e ∈ L, e.2.2 ≤ 1073741824) {i k : Nat} (hi : i < N) (hk : k < N) : -1 ≤ dst N L i k ∧ dst N L i k ≤ 68719476736 := by
  rcases dst_is hl hn hw hi hk with ⟨h, _⟩ | ⟨W, h, _, h3⟩ <;> omega
/-- A row of the table. -/
theorem LL.row {w : World} {A : Option Addr} {n c N : Nat} {ls : List (List Int)} (h : LL w (.slice A n c) ls) {i : Nat} {l : List Int} (hl : ls[i]? = some l) (hN : l.length = N) (h0 : 0 < N) : ∃ b o b' o' c', A = some ⟨b, o, none⟩ ∧ w.cell? ⟨b, o + i, none⟩ = some (.slice (some ⟨b', o', none⟩) N c') ∧ ∀ (k : Nat) x, l[k]? = some x → w.cell? ⟨b', o' + k, none⟩ = some (.int .i64 x) := by
  subst hN
  obtain ⟨-, b, o, t, rfl, -, h1, A', c', h2, -, -, h3⟩ := h.at hl
  obtain ⟨b', o', rfl, -, h4⟩ := h3 h0
  exact ⟨b, o, b', o', c', rfl, by rw [h1, h2], fun k x hk => h4 k _ (ints_at l k x hk)⟩
theorem range_row {N : Nat} {L : List Ed} {i : Nat} (h : i < N) : ((List.range N).map (distL N L))[i]? = some (distL N L i) := by
  rw [List.getElem?_map, List.getElem?_range h]
  rfl
set_option maxRecDepth 100000 in
set_option maxHeartbeats 8000000 in
theorem tri_law (n : Int) (v : Value) (l : List Er) (hl : l.length ≤ 9223372036854775807) (_ : OkR l) (w : World) (h : LstR w v l) : Calls Try.prog 7 #[.int .i64 n, v] w fun e w' => e = .returned (.bool true) ∧ Below w.heap.size w w' := by
  have CK := Lib.hid (rcheck_any n v l hl w h)
  have H := Lib.hid h
  obtain ⟨A, c, rfl, -, -, -⟩ := h
  by_cases h4 : 400 < l.length
  · have g4 : (400 : Int) < (l.length : Int) := by omega
    clear CK h4
    go_enter Try.func7, Try.ntmps7
    go_wp2_with fail
    refine (ex_any w).mono ?_
    rintro e w1 ⟨rfl, b1⟩
    go_wp2_with fail
    go_ret
    exact ⟨rfl, b1⟩
  have g4 : decide ((400 : Int) < (l.length : Int)) = false := by rw [decide_eq_false_iff_not]; omega
  by_cases hc : chkR n l = 0
  · obtain ⟨N, L, g⟩ := chkR_ok hc
    have hn := g.n_eq
    have AN := Lib.hid (ansA_ok g hc)
    have hN := g.le
    have HI := Lib.hid g.inn
    have HW := Lib.hid g.low
    have HLE := Lib.hid g.l_eq
    rw [hc] at CK
    subst hn
    have TO := Lib.hid (to_any _ l (by omega) w H.out)
    have hl4 : l.length ≤ 400 := by omega
    clear h4 g
    go_enter Try.func7, Try.ntmps7
    go_wp2_with fail
    refine CK.out.mono ?_
    rintro e w' ⟨rfl, rfl⟩
    clear CK
    go_wp2_with fail
    refine TO.out.mono ?_
    rintro e w1 ⟨u1, rfl, l1, b1⟩
    have B1 := Lib.hid b1
    have L1 := Lib.hid l1
    clear b1 l1 TO g4
    go_wp2_with fail
    have KA := kall_any (N : Int) u1 l hl w1 L1.out
    rw [hc, AN.out] at KA
    refine KA.mono ?_
    rintro e w2 ⟨u2, rfl, o2, b2⟩
    have B2 : Hid (Below w.heap.size w w2) := B1.out.trans (b2.mono B1.out.size)
    obtain ⟨A2, c2, rfl⟩ := o2.len
    have D2 := Lib.hid o2
    rw [List.length_map, List.length_range] at D2 ⊢
    clear o2 b2 B1 L1 KA
    have t0 := neq_false (a := (N : Int)) rfl
    go_wp2_with fail
    clear t0
    go_loopw [7] (fun i wr => ∃ k : Nat, i = .int .i64 k ∧ k ≤ N ∧ Hid (Below w2.heap.size w2 wr)) (fun i _ => N - (intOf i).toNat)
    case atStart => exact ⟨0, rfl, Nat.zero_le _, Lib.hid (Below.refl _ _)⟩
    case round =>
      obtain ⟨k, rfl, hk, HB⟩ := hrel
      by_cases hlt : k < N
      · have gk : (k : Int) < (N : Int) := by omega
        obtain ⟨b, o, b', o', c', rfl, m0, m1⟩ := (D2.out.below HB.out).row (range_row hlt) (distL_length _ _ _) (by omega)
        have m2 := m1 k _ (dst_at hlt)
        rw [dst_self HI.out hN HW.out hlt] at m2
        have t0 := neq_false (a := (N : Int)) rfl
        clear m1
        go_wp2_with fail
        go_roundw
        case rel => exact ⟨k + 1, by go_num, by omega, HB⟩
        case measure => simp [intOf]; omega
      · have d0 : decide (k < N) = false := by rw [decide_eq_false_iff_not]; exact hlt
        clear hlt
        go_wp2_with fail
        clear d0 hk
        go_loopw [8] (fun i wx => ∃ k : Nat, i = .int .i64 k ∧ k ≤ l.length ∧ Hid (Below w2.heap.size w2 wx)) (fun i _ => l.length - (intOf i).toNat)
        case atStart => exact ⟨0, rfl, Nat.zero_le _, HB⟩
        case round =>
          clear HB
          obtain ⟨k, rfl, hk, HB⟩ := hrel
          by_cases hlt : k < l.length
          · obtain ⟨e, he⟩ := at_lt (l := L) (k := k) (by have := congrArg List.length HLE.out; rw [List.length_map] at this; omega)
            have hel : l[k]? = some (upE e) := by rw [HLE.out, List.getElem?_map, he]; rfl
            obtain ⟨b0, o0, rfl, hb0, r0, r1, r2⟩ := three_at er_len (H.out.below (B2.out.trans (HB.out.mono B2.out.size))) hel rfl
            have heL : e ∈ L := List.mem_iff_getElem?.2 ⟨k, he⟩
            have hin := HI.out e heL
            obtain ⟨x, y, z⟩ := e
            simp only [upE] at r0 r1 r2 hin
            have hde := dst_edge HI.out hN HW.out heL
            obtain ⟨b, o, b', o', c', rfl, m0, m1⟩ := (D2.out.below HB.out).row (range_row hin.1) (distL_length _ _ _) (by omega)
            have m2 := m1 y _ (dst_at hin.2)
            have gk : (k : Int) < (l.length : Int) := by omega
            have gx : (x : Int) < (N : Int) := by omega
            have gy : (y : Int) < (N : Int) := by omega
            generalize dst N L x y = dd at hde m2
            have t1 : decide (dd < 0) = false := by rw [decide_eq_false_iff_not]; omega
            have t2 : decide ((z : Int) < dd) = false := by rw [decide_eq_false_iff_not]; omega
            clear m1 he hel heL hde hin
            go_wp2_with fail
            go_quiet (fail)
            have B3 : Hid (Below w2.heap.size w2 (wr.drewN nq)) := below_drewN HB.out nq
            have r3 : (wr.drewN nq).cell? ⟨b0, o0 + k * 3 + 2, none⟩ = some (.int .i64 (z : Int)) := r2
            clear r0 r1 r2 m0 m2 HB
            generalize wr.drewN nq = w3 at B3 r3 ⊢
            go_wp2_with fail
            go_roundw
            case rel => exact ⟨k + 1, by go_num, by omega, B3⟩
            case measure => simp [intOf]; omega
          · have d0 : decide (k < l.length) = false := by rw [decide_eq_false_iff_not]; exact hlt
            clear hlt
            go_wp2_with fail
            clear d0 hk
            go_loopw [10] (fun i wx => ∃ k : Nat, i = .int .i64 k ∧ k ≤ N ∧ Hid (Below w2.heap.size w2 wx)) (fun i _ => N - (intOf i).toNat)
            case atStart => exact ⟨0, rfl, Nat.zero_le _, HB⟩
            case round =>
              clear HB
              obtain ⟨i, rfl, hi, HB⟩ := hrel
              by_cases hlt : i < N
              · have gi : (i : Int) < (N : Int) := by omega
                go_wp2_with fail
                go_loopw [11] (fun u wx => ∃ k : Nat, u = .int .i64 k ∧ k ≤ N ∧ Hid (Below w2.heap.size w2 wx)) (fun u _ => N - (intOf u).toNat)
                case atStart => exact ⟨0, rfl, Nat.zero_le _, HB⟩
                case round =>
                  clear HB
                  obtain ⟨k, rfl, hk, HB⟩ := hrel
                  by_cases hlt2 : k < N
                  · have gk : (k : Int) < (N : Int) := by omega
                    go_wp2_with fail
                    go_loopw [12] (fun u wx => ∃ m : Nat, u = .int .i64 m ∧ m ≤ N ∧ Hid (Below w2.heap.size w2 wx)) (fun u _ => N - (intOf u).toNat)
                    case atStart => exact ⟨0, rfl, Nat.zero_le _, HB⟩
                    case round =>
                      clear HB
                      obtain ⟨m, rfl, hm, HB⟩ := hrel
                      by_cases hlt3 : m < N
                      · have gm : (m : Int) < (N : Int) := by omega
                        obtain ⟨b, o, b1, o1, c1, rfl, p0, p1⟩ := (D2.out.below HB.out).row (range_row hlt) (distL_length _ _ _) (by omega)
                        obtain ⟨b', o', b2, o2, c2', hA, q0, q1⟩ := (D2.out.below HB.out).row (range_row hlt2) (distL_length _ _ _) (by omega)
                        cases hA
                        have x1 := p1 k _ (dst_at hlt2)
                        have x2 := q1 m _ (dst_at hlt3)
                        have x3 := p1 m _ (dst_at hlt3)
                        have TR := Lib.hid (fun h1 h2 => dst_tri HI.out hN HW.out hlt hlt2 hlt3 h1 h2)
                        obtain ⟨s1, s2⟩ := dst_rng HI.out hN HW.out hlt hlt2
                        obtain ⟨s3, s4⟩ := dst_rng HI.out hN HW.out hlt2 hlt3
                        generalize dst N L i k = ik at x1 TR s1 s2
                        generalize dst N L k m = km at x2 TR s3 s4
                        generalize dst N L i m = im at x3 TR
                        clear p1 q1
                        by_cases h1 : 0 ≤ ik
                        · by_cases h2 : 0 ≤ km
                          · have t1 : decide (im < 0) = false := by rw [decide_eq_false_iff_not]; have := TR.out h1 h2; omega
                            have t2 : decide (ik + km < im) = false := by rw [decide_eq_false_iff_not]; have := TR.out h1 h2; omega
                            clear TR
                            go_wp2_with fail
                            go_quiet (fail)
                            have B3 : Hid (Below w2.heap.size w2 (wr.drewN nq)) := below_drewN HB.out nq
                            clear HB p0 q0 x1 x2 x3 t1 t2
                            generalize wr.drewN nq = w3 at B3 ⊢
                            go_wp2_with fail
                            go_roundw
                            case rel => exact ⟨m + 1, by go_num, by omega, B3⟩
                            case measure => simp [intOf]; omega
                          · have t1 : decide (0 ≤ km) = false := decide_eq_false h2
                            clear TR h2
                            go_wp2_with fail
                            go_quiet (fail)
                            have B3 : Hid (Below w2.heap.size w2 (wr.drewN nq)) := below_drewN HB.out nq
                            clear HB p0 q0 x1 x2 x3 t1
                            generalize wr.drewN nq = w3 at B3 ⊢
                            go_wp2_with fail
                            go_roundw
                            case rel => exact ⟨m + 1, by go_num, by omega, B3⟩
                            case measure => simp [intOf]; omega
                        · have t1 : decide (0 ≤ ik) = false := decide_eq_false h1
                          clear TR h1
                          go_wp2_with fail
                          go_quiet (fail)
                          have B3 : Hid (Below w2.heap.size w2 (wr.drewN nq)) := below_drewN HB.out nq
                          clear HB p0 q0 x1 x2 x3 t1
                          generalize wr.drewN nq = w3 at B3 ⊢
                          go_wp2_with fail
                          go_roundw
                          case rel => exact ⟨m + 1, by go_num, by omega, B3⟩
                          case measure => simp [intOf]; omega
                      · have d3 : decide (m < N) = false := by rw [decide_eq_false_iff_not]; exact hlt3
                        clear hlt3
                        go_wp2_with fail
                        go_roundw
                        case rel => exact ⟨k + 1, by go_num, by omega, HB⟩
                        case measure => simp [intOf]; omega
                  · have d2 : decide (k < N) = false := by rw [decide_eq_false_iff_not]; exact hlt2
                    clear hlt2
                    go_wp2_with fail
                    go_roundw
                    case rel => exact ⟨i + 1, by go_num, by omega, HB⟩
                    case measure => simp [intOf]; omega
              · have d1 : decide (i < N) = false := by rw [decide_eq_false_iff_not]; exact hlt
                have B9 : Hid (Below w.heap.size w wr) := B2.out.trans (HB.out.mono B2.out.size)
                clear hlt HB D2
                go_wp2_with fail
                refine (ex_any wr).mono ?_
                rintro e w5 ⟨rfl, b5⟩
                have B5 := Lib.hid (B9.out.trans (b5.mono B9.out.size))
                clear b5 B9
                go_wp2_with fail
                go_ret
                exact ⟨rfl, B5.out⟩
  · have t := bne_true (a := chkR n l) (b := 0) hc
    generalize chkR n l = q at CK t
    clear hc h4
    go_enter Try.func7, Try.ntmps7
    go_wp2_with fail
    refine CK.out.mono ?_
    rintro e w' ⟨rfl, rfl⟩
    clear CK
    go_wp2_with fail
    refine (ex_any w).mono ?_
    rintro e w1 ⟨rfl, b1⟩
    go_wp2_with fail
    go_ret
    exact ⟨rfl, b1⟩
end Go.Proofs.Ytahbgafjljfndaa
