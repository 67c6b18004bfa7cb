/-
  Many of the reference of package frequency, plain and valid of its laws: what each call answers; nothing that existed before the call has changed behind it. Condition: none beyond each theorem's own hypotheses.
-/
import Derived.Test.YtahnaidkobodaaaHzD
namespace Go.Proofs.Ytahnaidkobodaaa
open Go.RowKit

theorem tot_take {l : List Fq} (h : ¬ 100 < l.length) (k : Nat) : totF (l.take k) ≤ 17280000 := by
  have h1 := tot_le (l.take k)
  have h2 : (l.take k).length ≤ 100 := by rw [List.length_take]; omega
  omega
set_option maxRecDepth 100000 in
set_option maxHeartbeats 8000000 in
theorem rmny_any (vl : Value) (l : List Fq) (most : Int) (w : World) (h : LstF w vl l) : Calls Try.prog 8 #[vl, .int .i64 most] w fun e w' => e = .returned (.bool (mnyF l most)) ∧ Below w.heap.size w w' := by
  have H := Lib.hid h
  obtain ⟨A, n, rfl, -, -, -⟩ := h
  by_cases h0 : 100 < l.length
  · have R := Lib.hid (mny_long (most := most) h0)
    have g : (100 : Int) < (l.length : Int) := by omega
    clear h0
    go_enter Try.func8, Try.ntmps8
    go_wp2_with fail
    go_ret
    exact ⟨ret_bool R.out.symm, Below.refl _ _⟩
  have R := Lib.hid (mny_short (most := most) h0)
  have g : decide ((100 : Int) < (l.length : Int)) = false := decide_eq_false (by omega)
  have g' : decide (100 < l.length) = false := decide_eq_false h0
  go_enter Try.func8, Try.ntmps8
  go_wp2_with fail
  go_loopw [5, 6] (fun s i wr => ∃ (k x : Nat), s = .int .i64 (x : Int) ∧ i = .int .i64 k ∧ k ≤ l.length ∧ x ≤ 17280000 ∧ Hid (x = totF (l.take k)) ∧ Hid (Below w.heap.size w wr)) (fun _ i _ => l.length - (intOf i).toNat)
  case atStart => exact ⟨0, 0, rfl, rfl, Nat.zero_le _, Nat.zero_le _, Lib.hid rfl, Lib.hid (Below.refl _ _)⟩
  case round =>
    clear g g'
    obtain ⟨k, x, rfl, rfl, hk, hxb, hx, HB⟩ := hrel
    by_cases hlt : k < l.length
    · obtain ⟨⟨t, a, b, v⟩, hf⟩ := at_lt hlt
      obtain ⟨p, o, rfl, hp, m0, m1, m2, m3⟩ := four_at (H.out.below HB.out) hf
      have gk : (k : Int) < (l.length : Int) := by omega
      have C := Lib.hid (rsnd_any t a b v wr)
      have N := Lib.hid (tot_next hf)
      cases hs : sndF (t, a, b, v) with
      | false =>
        rw [hs] at C
        have N2 : Hid (x = totF (l.take (k + 1))) := by
          show _ = _
          rw [N.out, sts_no hs]
          exact hx.out
        clear hf hp hs N hx
        go_wp2_with fail
        refine C.out.mono ?_
        rintro e w1 ⟨rfl, b1⟩
        have B1 : Hid (Below w.heap.size w w1) := HB.out.trans (b1.mono HB.out.size)
        clear b1 C HB
        go_wp2_with fail
        go_roundw
        case rel => exact ⟨k + 1, x, rfl, by go_num, by omega, hxb, N2, B1⟩
        case measure => simp [intOf]; omega
      | true =>
        rw [hs] at C
        have D := Lib.hid (fun W => rcnt_any t a b v hs W)
        have hc := cnt_le hs
        obtain ⟨cg, hcg⟩ : ∃ cg, cntF (t, a, b, v) = cg := ⟨_, rfl⟩
        have N2 : Hid (x + cg = totF (l.take (k + 1))) := by
          show _ = _
          rw [N.out, sts_yes hs, lst_len, hcg, hx.out]
        have hxc : x + cg ≤ 17280000 := by rw [N2.out]; exact tot_take h0 (k + 1)
        rw [hcg] at D hc
        have HP := Lib.hid hp
        clear hf hp hs N hx hcg
        go_wp2_with fail
        refine C.out.mono ?_
        rintro e w1 ⟨rfl, b1⟩
        have B1 : Hid (Below w.heap.size w w1) := HB.out.trans (b1.mono HB.out.size)
        have k0 := (b1.cell (p := ⟨p, o + k * 4, none⟩) HP.out).trans m0
        have k1 := (b1.cell (p := ⟨p, o + k * 4 + 1, none⟩) HP.out).trans m1
        have k2 := (b1.cell (p := ⟨p, o + k * 4 + 2, none⟩) HP.out).trans m2
        have k3 := (b1.cell (p := ⟨p, o + k * 4 + 3, none⟩) HP.out).trans m3
        clear b1 C HB m0 m1 m2 m3
        go_wp2_with fail
        refine (D.out _).mono ?_
        rintro e w2 ⟨rfl, b2⟩
        have B2 : Hid (Below w.heap.size w w2) := B1.out.trans (b2.mono B1.out.size)
        clear b2 D B1 k0 k1 k2 k3
        go_wp2_with fail
        go_roundw
        case rel => exact ⟨k + 1, x + cg, by go_num, by go_num, by omega, hxc, N2, B2⟩
        case measure => simp [intOf]; omega
    · have E := Lib.hid hx.out
      rw [List.take_of_length_le (by omega)] at E
      have d : decide (k < l.length) = false := by rw [decide_eq_false_iff_not]; exact hlt
      clear hx hlt
      go_wp2_with fail
      go_ret
      exact ⟨ret_bool (by rw [R.out, E.out]), HB.out⟩
/-- Whether trips are few and short. -/
def plnT (ts : List Tp) : Bool := decide (ts.length ≤ 20) && ts.all fun x => decide ((clT x).length ≤ 40)
theorem pln_many {ts : List Tp} (h : 20 < ts.length) : plnT ts = false := by unfold plnT; rw [decide_eq_false (by omega)]; rfl
theorem pln_long {ts : List Tp} {k : Nat} {x : Tp} (h : ts[k]? = some x) (hx : 40 < (clT x).length) : plnT ts = false := by
  unfold plnT
  rw [show (ts.all fun x => decide ((clT x).length ≤ 40)) = false from ?_, Bool.and_false]
  rw [List.all_eq_false]
  exact ⟨x, List.mem_iff_getElem?.2 ⟨k, h⟩, by rw [decide_eq_true_iff]; omega⟩
theorem pln_done {ts : List Tp} (h : ts.length ≤ 20) (hx : ∀ (j : Nat) x, ts[j]? = some x → (clT x).length ≤ 40) : plnT ts = true := by
  unfold plnT
  rw [decide_eq_true h, Bool.true_and, List.all_eq_true]
  intro x hm
  obtain ⟨j, hj⟩ := List.mem_iff_getElem?.1 hm
  exact decide_eq_true (hx j x hj)
theorem pln_is {ts : List Tp} (h : plnT ts = true) : ts.length ≤ 20 ∧ ∀ x ∈ ts, (clT x).length ≤ 40 := by
  unfold plnT at h
  rw [Bool.and_eq_true, decide_eq_true_iff, List.all_eq_true] at h
  exact ⟨h.1, fun x hx => of_decide_eq_true (h.2 x hx)⟩
set_option maxRecDepth 100000 in
set_option maxHeartbeats 8000000 in
theorem plain_any (vt : Value) (ts : List Tp) (w : World) (ht : LstTp w vt ts) : Calls Try.prog 9 #[vt] w fun e w' => e = .returned (.bool (plnT ts)) ∧ w = w' := by
  have HT := Lib.hid ht
  obtain ⟨⟨D, m, rfl, -, -, -⟩, -⟩ := ht
  by_cases h0 : 20 < ts.length
  · have R := Lib.hid (pln_many h0)
    have g : (20 : Int) < (ts.length : Int) := by omega
    clear h0
    go_enter Try.func9, Try.ntmps9
    go_wp2_with fail
    go_ret
    exact ⟨ret_bool R.out.symm, rfl⟩
  have g : decide ((20 : Int) < (ts.length : Int)) = false := decide_eq_false (by omega)
  have g' : decide (20 < ts.length) = false := decide_eq_false h0
  go_enter Try.func9, Try.ntmps9
  go_wp2_with fail
  go_loop [3] (fun i => ∃ k : Nat, i = .int .i64 k ∧ k ≤ ts.length ∧ Hid (∀ (j : Nat) x, j < k → ts[j]? = some x → (clT x).length ≤ 40)) (fun i => ts.length - (intOf i).toNat)
  case atStart => exact ⟨0, rfl, Nat.zero_le _, Lib.hid (fun j x hj => absurd hj (Nat.not_lt_zero _))⟩
  case round =>
    clear g g'
    obtain ⟨k, rfl, hk, hall⟩ := hrel
    by_cases hlt : k < ts.length
    · obtain ⟨⟨id, rr, kk, ff, cv, cl⟩, hx⟩ := at_lt hlt
      obtain ⟨nm, hnm⟩ : ∃ nm, str id = nm := ⟨_, rfl⟩
      obtain ⟨bt, ot, BB, mm, rfl, rfl, hbt, r0, r1, r2, r3, r4, -, hll, -⟩ := trip_at HT.out hx hnm
      have gk : (k : Int) < (ts.length : Int) := by omega
      by_cases hc : 40 < cl.length
      · have R := Lib.hid (pln_long hx hc)
        have g : (40 : Int) < (cl.length : Int) := by omega
        clear hx hnm hbt hall hc
        go_wp2_with fail
        go_ret
        exact ⟨ret_bool R.out.symm, rfl⟩
      · have g : decide ((40 : Int) < (cl.length : Int)) = false := decide_eq_false (by omega)
        have g' : decide (40 < cl.length) = false := decide_eq_false hc
        have N : Hid (∀ (j : Nat) x, j < k + 1 → ts[j]? = some x → (clT x).length ≤ 40) := by
          intro j z hj hz
          by_cases hjk : j < k
          · exact hall.out j z hjk hz
          · obtain rfl : j = k := by omega
            rw [hx] at hz
            obtain rfl := Option.some.inj hz
            show cl.length ≤ 40
            omega
        clear hx hnm hbt hall hc
        go_wp2_with fail
        go_round
        case rel => exact ⟨k + 1, by go_num, by omega, N⟩
        case measure => simp [intOf]; omega
    · have R := Lib.hid (pln_done (by omega) (fun j x hj => hall.out j x (by have := (List.getElem?_eq_some_iff.1 hj).1; omega) hj))
      have d : decide (k < ts.length) = false := by rw [decide_eq_false_iff_not]; exact hlt
      clear hall hlt
      go_wp2_with fail
      go_ret
      exact ⟨ret_bool R.out.symm, rfl⟩
/-! ### valid: all that is wanted of it is that each trip has two calls at least -/
def ValE (ts : List Tp) (e : Ending) : Prop := ∃ r : Bool, e = .returned (.bool r) ∧ (r = true → ∀ x ∈ ts, 2 ≤ (clT x).length)
theorem val_no (ts : List Tp) : ValE ts (.returned (.bool false)) := ⟨false, rfl, fun h => (by cases h)⟩
theorem val_yes {ts : List Tp} (h : ∀ x ∈ ts, 2 ≤ (clT x).length) : ValE ts (.returned (.bool true)) := ⟨true, rfl, fun _ => h⟩
set_option maxRecDepth 100000 in
set_option maxHeartbeats 8000000 in
theorem valid_any (vt : Value) (ts : List Tp) (htl : ts.length ≤ 9223372036854775807) (w : World) (ht : LstTp w vt ts) : Calls Try.prog 10 #[vt] w fun e w' => ValE ts e ∧ Below w.heap.size w w' := by
  have HT := Lib.hid ht
  obtain ⟨⟨D, m, rfl, -, -, -⟩, -⟩ := ht
  go_enter Try.func10, Try.ntmps10
  go_wp2_with fail
  go_loopw [3] (fun i wr => ∃ k : Nat, i = .int .i64 k ∧ k ≤ ts.length ∧ Hid (∀ (j : Nat) x, j < k → ts[j]? = some x → 2 ≤ (clT x).length) ∧ Hid (Below w.heap.size w wr)) (fun i _ => ts.length - (intOf i).toNat)
  case atStart => exact ⟨0, rfl, Nat.zero_le _, Lib.hid (fun j x hj => absurd hj (Nat.not_lt_zero _)), Lib.hid (Below.refl _ _)⟩
  case round =>
    obtain ⟨k, rfl, hk, hall, HB⟩ := hrel
    by_cases hlt : k < ts.length
    · obtain ⟨⟨id, rr, kk, ff, cv, cl⟩, hx⟩ := at_lt hlt
      obtain ⟨nm, hnm⟩ : ∃ nm, str id = nm := ⟨_, rfl⟩
      obtain ⟨bt, ot, BB, mm, rfl, rfl, hbt, r0, r1, r2, r3, r4, lc, hll, -⟩ := trip_at (HT.out.below HB.out) hx hnm
      have gk : (k : Int) < (ts.length : Int) := by omega
      by_cases hc : cl.length < 2
      · have g : (cl.length : Int) < 2 := by omega
        clear hx hnm hbt hall hc lc
        go_wp2_with fail
        go_ret
        exact ⟨val_no ts, HB.out⟩
      have g : decide ((cl.length : Int) < 2) = false := decide_eq_false (by omega)
      have g' : decide (cl.length < 2) = false := decide_eq_false hc
      have N : Hid (∀ (j : Nat) x, j < k + 1 → ts[j]? = some x → 2 ≤ (clT x).length) := by
        intro j z hj hz
        by_cases hjk : j < k
        · exact hall.out j z hjk hz
        · obtain rfl : j = k := by omega
          rw [hx] at hz
          obtain rfl := Option.some.inj hz
          show 2 ≤ cl.length
          omega
      obtain ⟨⟨y, ya, yd, yo, yu⟩, hy⟩ := at_lt (l := cl) (k := 0) (by omega)
      obtain ⟨cb, cf, rfl, hcb, q0, q1, q2, q3, q4⟩ := five_at lc hy
      rw [Nat.zero_mul, Nat.add_zero] at q0 q1 q2 q3 q4
      obtain ⟨L, hL⟩ : ∃ L, cl.length - 1 = L := ⟨_, rfl⟩
      obtain ⟨⟨z, za, zd, zo, zu⟩, hz⟩ := at_lt (l := cl) (k := L) (by omega)
      obtain ⟨cb', cf', e', hcb', s0, s1, s2, s3, s4⟩ := five_at lc hz
      cases e'
      have eL : (cl.length : Int) - 1 = (L : Int) := by omega
      have wL : IntKind.i64.wrap (L : Int) = (L : Int) := IntWalk.i64_in _ (by omega)
      have gL : (L : Int) < (cl.length : Int) := by omega
      have g0 : (0 : Int) < (cl.length : Int) := by omega
      have g0' : 0 < cl.length := by omega
      have LC := Lib.hid lc
      clear hx hnm hbt hall hc lc hy hz hL hcb hcb'
      by_cases h1 : ya < 0
      · clear N LC
        go_wp2_with fail
        go_ret
        exact ⟨val_no ts, HB.out⟩
      have d1 : decide (ya < 0) = false := decide_eq_false h1
      by_cases h2 : 172800 < zd
      · clear N LC
        go_wp2_with fail
        go_ret
        exact ⟨val_no ts, HB.out⟩
      have d2 : decide (172800 < zd) = false := decide_eq_false h2
      go_wp2_with fail
      clear d1 d2 h1 h2 g g' q0 q1 q2 q3 q4 s0 s1 s2 s3 s4 eL wL gL r0 r1 r2 r3 r4
      go_loopw [5] (fun j wx => ∃ q : Nat, j = .int .i64 q ∧ q ≤ cl.length ∧ Hid (Below wr.heap.size wr wx)) (fun j _ => cl.length - (intOf j).toNat)
      case atStart => exact ⟨0, rfl, Nat.zero_le _, Lib.hid (Below.refl _ _)⟩
      case round =>
        obtain ⟨q, rfl, hq, HW⟩ := hrel
        by_cases hql : q < cl.length
        · obtain ⟨⟨x, xa, xd, xo, xu⟩, hx⟩ := at_lt hql
          obtain ⟨cb', cf', e', -, q0, q1, q2, q3, q4⟩ := five_at (LC.out.below HW.out) hx
          cases e'
          have gq : (q : Int) < (cl.length : Int) := by omega
          by_cases h1 : xd < xa
          · clear N LC hx
            go_wp2_with fail
            go_quiet (fail)
            have bq := below_drewN (Below.refl wr.heap.size wr) nq
            generalize wr.drewN nq = w4 at bq ⊢
            have B4 := Lib.hid ((HB.out.trans (HW.out.mono HB.out.size)).trans (bq.mono (HB.out.trans (HW.out.mono HB.out.size)).size))
            clear bq HW
            go_wp2_with fail
            go_ret
            exact ⟨val_no ts, B4.out⟩
          have d1 : decide (xd < xa) = false := decide_eq_false h1
          by_cases hq0 : q = 0
          · subst hq0
            clear hx h1
            go_wp2_with fail
            go_quiet (fail)
            have bq := below_drewN (Below.refl wr.heap.size wr) nq
            generalize wr.drewN nq = w4 at bq ⊢
            have B4 := Lib.hid (HW.out.trans (bq.mono HW.out.size))
            clear bq HW
            go_wp2_with fail
            go_roundw
            case rel => exact ⟨1, by go_num, by omega, B4⟩
            case measure => simp [intOf]; omega
          obtain ⟨r, hr⟩ : ∃ r, q - 1 = r := ⟨_, rfl⟩
          obtain ⟨⟨y, ya, yd, yo, yu⟩, hy⟩ := at_lt (l := cl) (k := r) (by omega)
          obtain ⟨cb', cf', e', -, s0, s1, s2, s3, s4⟩ := five_at (LC.out.below HW.out) hy
          cases e'
          have gp : (0 : Int) < (q : Int) := by omega
          have gp' : 0 < q := by omega
          have eL : (q : Int) - 1 = (r : Int) := by omega
          have wL : IntKind.i64.wrap (r : Int) = (r : Int) := IntWalk.i64_in _ (by omega)
          have gr : (r : Int) < (cl.length : Int) := by omega
          clear hx hy hr h1
          by_cases h2 : xa < yd
          · clear N LC
            go_wp2_with fail
            go_quiet (fail)
            have bq := below_drewN (Below.refl wr.heap.size wr) nq
            generalize wr.drewN nq = w4 at bq ⊢
            have B4 := Lib.hid ((HB.out.trans (HW.out.mono HB.out.size)).trans (bq.mono (HB.out.trans (HW.out.mono HB.out.size)).size))
            clear bq HW
            go_wp2_with fail
            go_ret
            exact ⟨val_no ts, B4.out⟩
          have d2 : decide (xa < yd) = false := decide_eq_false h2
          go_wp2_with fail
          go_quiet (fail)
          have bq := below_drewN (Below.refl wr.heap.size wr) nq
          generalize wr.drewN nq = w4 at bq ⊢
          have B4 := Lib.hid (HW.out.trans (bq.mono HW.out.size))
          clear bq HW h2 hq0
          go_wp2_with fail
          go_roundw
          case rel => exact ⟨q + 1, by go_num, by omega, B4⟩
          case measure => simp [intOf]; omega
        · have d : decide (q < cl.length) = false := by rw [decide_eq_false_iff_not]; exact hql
          have B4 : Hid (Below w.heap.size w wr) := HB.out.trans (HW.out.mono HB.out.size)
          clear hql HW
          go_wp2_with fail
          go_roundw
          case rel => exact ⟨k + 1, by go_num, by omega, N, B4⟩
          case measure => simp [intOf]; omega
    · have R : Hid (∀ x ∈ ts, 2 ≤ (clT x).length) := by
        intro x hx
        obtain ⟨j, hj⟩ := List.mem_iff_getElem?.1 hx
        exact hall.out j x (by have := (List.getElem?_eq_some_iff.1 hj).1; omega) hj
      have d : decide (k < ts.length) = false := by rw [decide_eq_false_iff_not]; exact hlt
      clear hall hlt
      go_wp2_with fail
      go_ret
      exact ⟨val_yes R.out, HB.out⟩
end Go.Proofs.Ytahnaidkobodaaa
