/-
  Time, Around: what each call answers; nothing that existed before the call has changed behind it. Condition: lists of at most 100000 footpaths.
-/
import Derived.Test.YtibakhobgfiklaaFpR
namespace Go.Proofs.Ytibakhobgfiklaa
open Go.RowKit Go.Sort

/-! ### Time -/
def tiV (o : Option Int) : Int := o.getD 0
def tiB (o : Option Int) : Bool := o.isSome
/-- The smallest time so far. -/
def TiS (o : Option Int) (n : Int) (q : Bool) : Prop := (q = false ∧ n = 0 ∧ o = none) ∨ (q = true ∧ o = some n)
theorem TiS.val {o : Option Int} {n : Int} {q : Bool} (h : TiS o n q) : tiV o = n ∧ tiB o = q := by
  rcases h with ⟨rfl, rfl, rfl⟩ | ⟨rfl, rfl⟩ <;> exact ⟨rfl, rfl⟩
theorem ret_ti {o : Option Int} {n : Int} {q : Bool} (h : TiS o n q) : Ending.returned (.tuple #[.int .i64 n, .bool q]) = Ending.returned (.tuple #[.int .i64 (tiV o), .bool (tiB o)]) := by rw [h.val.1, h.val.2]
set_option maxRecDepth 100000 in
set_option maxHeartbeats 4000000 in
theorem ktime_any (v : Value) (l : List Fp) (hl : l.length ≤ 100000) (fr tt : Int) (sf : Bool) (w : World) (h : LstF w v l) : Calls Try.prog 17 #[v, .int .i64 fr, .int .i64 tt, .bool sf] w fun e w' => e = .returned (.tuple #[.int .i64 (tiV (tiF l fr tt sf)), .bool (tiB (tiF l fr tt sf))]) ∧ Below w.heap.size w w' := by
  have hh := h
  obtain ⟨A, c, rfl, -⟩ := hh
  have H := Lib.hid h
  clear h
  go_enter Try.func17, Try.ntmps17
  go_wp2_with fail
  go_loopw [10, 11, 16] (fun u x i wr => ∃ (k : Nat) (n : Int) (q : Bool), u = .int .i64 n ∧ x = .bool q ∧ i = .int .i64 (k : Int) ∧ k ≤ l.length ∧ Hid (TiS (tiF (l.take k) fr tt sf) n q) ∧ Hid (RowKit.Below w.heap.size w wr)) (fun _ _ i _ => l.length - (intOf i).toNat)
  case atStart => exact ⟨0, 0, false, rfl, rfl, rfl, Nat.zero_le _, Lib.hid (.inl ⟨rfl, rfl, rfl⟩), Lib.hid (RowKit.Below.refl _ _)⟩
  case round =>
    obtain ⟨k, n, q, rfl, rfl, rfl, hk, HT, HB⟩ := hrel
    by_cases hlt : k < l.length
    · obtain ⟨⟨a, b, s, f⟩, hx⟩ := at_lt hlt
      obtain ⟨b', o, rfl, hb, m0, m1, m2, m3⟩ := four_at (H.out.below HB.out) hx
      have gk : (k : Int) < (l.length : Int) := by omega
      obtain ⟨w7, hw7⟩ : ∃ W, wr.alloc (boxF a b s f) = W := ⟨_, rfl⟩
      obtain ⟨b7, p0, p1, p2, p3, s7, c7⟩ := box_fp hw7
      obtain ⟨y0, y1⟩ := box_last hw7
      have B7 := Lib.hid (HB.out.trans (b7.mono HB.out.size))
      have S7 := Lib.hid s7
      have C7 := Lib.hid c7
      have NX := ti_next (a := fr) (b := tt) (sf := sf) hx
      have US := Lib.hid (usable_any a b s f sf w7)
      clear hx hb b7 c7 s7 HB
      by_cases h1 : ¬ a = fr
      · have t := bne_true (a := a) (b := fr) h1
        have N : Hid (TiS (tiF (l.take (k + 1)) fr tt sf) n q) := by show TiS _ _ _; rw [NX, tiS_no (isP_from h1)]; exact HT.out
        clear NX HT h1 US
        go_wp2_with fail
        go_roundw
        case rel => exact ⟨k + 1, n, q, rfl, rfl, by go_num, by omega, N, B7⟩
        case measure => simp [intOf]; omega
      have h1 := Decidable.not_not.1 h1
      have t1 := neq_false (a := a) (b := fr) h1
      by_cases h2 : ¬ b = tt
      · have t := bne_true (a := b) (b := tt) h2
        have N : Hid (TiS (tiF (l.take (k + 1)) fr tt sf) n q) := by show TiS _ _ _; rw [NX, tiS_no (isP_to h2)]; exact HT.out
        clear NX HT h1 h2 US
        go_wp2_with fail
        go_roundw
        case rel => exact ⟨k + 1, n, q, rfl, rfl, by go_num, by omega, N, B7⟩
        case measure => simp [intOf]; omega
      have h2 := Decidable.not_not.1 h2
      have t2 := neq_false (a := b) (b := tt) h2
      cases hu : (f || !sf) with
      | false =>
        have N : Hid (TiS (tiF (l.take (k + 1)) fr tt sf) n q) := by show TiS _ _ _; rw [NX, tiS_no (isP_use (x := (a, b, s, f)) hu)]; exact HT.out
        rw [hu] at US
        clear NX HT h1 h2 hu
        go_wp2_with fail
        refine US.out.mono ?_
        rintro e w8 ⟨rfl, b8⟩
        have B8 := Lib.hid (B7.out.trans (b8.mono B7.out.size))
        clear US b8
        go_wp2_with fail
        go_roundw
        case rel => exact ⟨k + 1, n, q, rfl, rfl, by go_num, by omega, N, B8⟩
        case measure => simp [intOf]; omega
      | true =>
        have hP : isP fr tt sf (a, b, s, f) = true := isP_iff.2 ⟨h1, h2, hu⟩
        rw [hu] at US
        clear hu h1 h2
        cases q with
        | false =>
          have N : Hid (TiS (tiF (l.take (k + 1)) fr tt sf) s true) := by
            rcases HT.out with ⟨-, -, e⟩ | ⟨e, -⟩
            · show TiS _ _ _
              rw [NX, e, tiS_first hP]
              exact .inr ⟨rfl, rfl⟩
            · cases e
          clear NX HT hP
          go_wp2_with fail
          refine US.out.mono ?_
          rintro e w8 ⟨rfl, b8⟩
          obtain ⟨p0, p1, p2, p3⟩ := row_fp ((b8.block _ S7.out).trans C7.out)
          have B8 := Lib.hid (B7.out.trans (b8.mono B7.out.size))
          clear US b8
          go_wp2_with fail
          go_roundw
          case rel => exact ⟨k + 1, s, true, rfl, rfl, by go_num, by omega, N, B8⟩
          case measure => simp [intOf]; omega
        | true =>
          have hn : tiF (l.take k) fr tt sf = some n := by
            rcases HT.out with ⟨e, -⟩ | ⟨-, e⟩
            · cases e
            · exact e
          by_cases hs : s < n
          · have N : Hid (TiS (tiF (l.take (k + 1)) fr tt sf) s true) := by
              show TiS _ _ _
              rw [NX, hn, tiS_less hP hs]
              exact .inr ⟨rfl, rfl⟩
            clear NX HT hP hn
            go_wp2_with fail
            refine US.out.mono ?_
            rintro e w8 ⟨rfl, b8⟩
            obtain ⟨p0, p1, p2, p3⟩ := row_fp ((b8.block _ S7.out).trans C7.out)
            have B8 := Lib.hid (B7.out.trans (b8.mono B7.out.size))
            clear US b8
            go_wp2_with fail
            go_roundw
            case rel => exact ⟨k + 1, s, true, rfl, rfl, by go_num, by omega, N, B8⟩
            case measure => simp [intOf]; omega
          · have d : decide (s < n) = false := decide_eq_false hs
            have N : Hid (TiS (tiF (l.take (k + 1)) fr tt sf) n true) := by
              show TiS _ _ _
              rw [NX, hn, tiS_more hP hs]
              exact .inr ⟨rfl, rfl⟩
            clear NX HT hP hn hs
            go_wp2_with fail
            refine US.out.mono ?_
            rintro e w8 ⟨rfl, b8⟩
            obtain ⟨p0, p1, p2, p3⟩ := row_fp ((b8.block _ S7.out).trans C7.out)
            have B8 := Lib.hid (B7.out.trans (b8.mono B7.out.size))
            clear US b8
            go_wp2_with fail
            go_roundw
            case rel => exact ⟨k + 1, n, true, rfl, rfl, by go_num, by omega, N, B8⟩
            case measure => simp [intOf]; omega
    · have d : decide (k < l.length) = false := by rw [decide_eq_false_iff_not]; exact hlt
      have R : Hid (TiS (tiF l fr tt sf) n q) := by
        have := HT.out
        rw [List.take_of_length_le (by omega)] at this
        exact this
      clear hlt HT
      go_wp2_with fail
      go_ret2
      exact ⟨ret_ti R.out, HB.out⟩

/-! ### Around -/
theorem nr_no1 {s m : Int} {sf : Bool} {x : Fp} (h : x.1 ≠ s) : nrP s m sf x = false := Bool.eq_false_iff.2 fun e => h (nrP_iff.1 e).1
theorem nr_no2 {s m : Int} {sf : Bool} {x : Fp} (h : ¬ x.2.2.1 ≤ m) : nrP s m sf x = false := Bool.eq_false_iff.2 fun e => h (nrP_iff.1 e).2.2
theorem nr_no3 {s m : Int} {sf : Bool} {x : Fp} (h : useP sf x = false) : nrP s m sf x = false := Bool.eq_false_iff.2 fun e => by rw [(nrP_iff.1 e).2.1] at h; cases h
set_option maxRecDepth 100000 in
set_option maxHeartbeats 4000000 in
theorem karound_any (v : Value) (l : List Fp) (hl : l.length ≤ 100000) (st mo : Int) (sf : Bool) (w : World) (h : LstF w v l) :
    Calls Try.prog 20 #[v, .int .i64 st, .int .i64 mo, .bool sf] w fun e w' => ∃ v', e = .returned v' ∧ LstI w' v' (arF l st mo sf) ∧ RowKit.Below w.heap.size w w' := by
  have hh := h
  obtain ⟨A, c, rfl, -⟩ := hh
  have H := Lib.hid h
  clear h
  go_enter Try.func20, Try.ntmps20
  go_wp2_with fail
  go_loopw [9, 14] (fun u i wr => ∃ k : Nat, i = .int .i64 (k : Int) ∧ k ≤ l.length ∧ Hid (OwnI wr w.heap.size u (nearL (l.take k) st mo sf)) ∧ Hid (RowKit.Below w.heap.size w wr)) (fun _ i _ => l.length - (intOf i).toNat)
  case atStart => exact ⟨0, rfl, Nat.zero_le _, Lib.hid (OwnI.nil _ _), Lib.hid (RowKit.Below.refl _ _)⟩
  case round =>
    obtain ⟨k, rfl, hk, HO, HB⟩ := hrel
    by_cases hlt : k < l.length
    · obtain ⟨⟨a, b, s, f⟩, hx⟩ := at_lt hlt
      obtain ⟨b', o, rfl, hb, m0, m1, m2, m3⟩ := four_at (H.out.below HB.out) hx
      have gk : (k : Int) < (l.length : Int) := by omega
      obtain ⟨w7, hw7⟩ : ∃ W, wr.alloc (boxF a b s f) = W := ⟨_, rfl⟩
      obtain ⟨b7, p0, p1, p2, p3, s7, c7⟩ := box_fp hw7
      obtain ⟨y0, y1⟩ := box_last hw7
      have B7 := Lib.hid (HB.out.trans (b7.mono HB.out.size))
      have O7 := Lib.hid (HO.out.below b7)
      have S7 := Lib.hid s7
      have C7 := Lib.hid c7
      have NX := near_next (s := st) (m := mo) (sf := sf) hx
      have US := Lib.hid (usable_any a b s f sf w7)
      have hln : (nearL (l.take k) st mo sf).length ≤ 100000 := by have := near_len (l.take k) st mo sf; rw [List.length_take] at this; omega
      have LN := Lib.hid hln
      clear hx hb b7 c7 s7 HB HO hln
      by_cases h1 : ¬ a = st
      · have t := beq_false (a := a) (b := st) h1
        have N : Hid (OwnI w7 w.heap.size u9 (nearL (l.take (k + 1)) st mo sf)) := by show OwnI _ _ _ _; rw [NX, nr_no1 h1]; simp; exact O7.out
        clear NX O7 h1 US
        go_wp2_with fail
        go_roundw
        case rel => exact ⟨k + 1, by go_num, by omega, N, B7⟩
        case measure => simp [intOf]; omega
      have h1 := Decidable.not_not.1 h1
      have t1 := beq_true (a := a) (b := st) h1
      by_cases h2 : ¬ s ≤ mo
      · have t := decide_eq_false h2
        have N : Hid (OwnI w7 w.heap.size u9 (nearL (l.take (k + 1)) st mo sf)) := by show OwnI _ _ _ _; rw [NX, nr_no2 (x := (a, b, s, f)) h2]; simp; exact O7.out
        clear NX O7 h1 h2 US
        go_wp2_with fail
        go_roundw
        case rel => exact ⟨k + 1, by go_num, by omega, N, B7⟩
        case measure => simp [intOf]; omega
      have h2 := Decidable.not_not.1 h2
      cases hu : (f || !sf) with
      | false =>
        have N : ∀ W, RowKit.Below w7.heap.size w7 W → OwnI W w.heap.size u9 (nearL (l.take (k + 1)) st mo sf) := by intro W hW; rw [NX, nr_no3 (x := (a, b, s, f)) hu]; simp; exact O7.out.below hW
        have N := Lib.hid N
        rw [hu] at US
        clear NX O7 h1 hu
        go_wp2_with fail
        refine US.out.mono ?_
        rintro e w8 ⟨rfl, b8⟩
        have B8 := Lib.hid (B7.out.trans (b8.mono B7.out.size))
        have N8 := Lib.hid (N.out w8 b8)
        clear US b8 N
        go_wp2_with fail
        go_roundw
        case rel => exact ⟨k + 1, by go_num, by omega, N8, B8⟩
        case measure => simp [intOf]; omega
      | true =>
        have hP : nrP st mo sf (a, b, s, f) = true := nrP_iff.2 ⟨h1, hu, h2⟩
        have NB : Hid (nearL (l.take (k + 1)) st mo sf = nearL (l.take k) st mo sf ++ [b]) := by show _ = _; rw [NX, if_pos hP]
        rw [hu] at US
        clear hu h1 NX hP
        go_wp2_with fail
        refine US.out.mono ?_
        rintro e w8 ⟨rfl, b8⟩
        obtain ⟨p0, p1, p2, p3⟩ := row_fp ((b8.block _ S7.out).trans C7.out)
        have B8 := Lib.hid (B7.out.trans (b8.mono B7.out.size))
        have O8 := Lib.hid (O7.out.below b8)
        have hz := B8.out.size
        clear US b8 O7
        go_wp2_with (at_builtin; refine app_int _ rfl (.tmp 33) (.tmp 36) rfl w.heap.size _ (nearL (l.take k) st mo sf) b rfl (World.ownsRow.alloc O8.out _) w8.heap.size _ (heap_alloc_new _ _) rfl rfl (by simp; omega) (by have := LN.out; omega) ?_; intro u2 w10 own10 b10; refine Hid.out ?_)
        refine Lib.hid ?_
        rw [← NB.out] at own10
        have O10 := Lib.hid own10
        have B10 := Lib.hid ((B8.out.alloc hz _).trans b10)
        clear own10 b10 O8 B8 NB hz
        go_wp2_with fail
        go_roundw
        case rel => exact ⟨k + 1, by go_num, by omega, O10, B10⟩
        case measure => simp [intOf]; omega
    · have d : decide (k < l.length) = false := by rw [decide_eq_false_iff_not]; exact hlt
      have ho := HO.out
      rw [List.take_of_length_le (show l.length ≤ k by omega)] at ho
      have hln : (nearL l st mo sf).length ≤ 1000000 := by have := near_len l st mo sf; omega
      have SC := Lib.hid (srt_call w.heap.size u9 (nearL l st mo sf) hln wr ho HB.out.size)
      have LN := Lib.hid hln
      obtain ⟨A9, c9, rfl⟩ := own_shape' ho
      clear hlt HO ho hln
      go_wp2_with fail
      refine SC.out.mono ?_
      rintro e w2 ⟨rfl, o2, b2⟩
      have B2 := Lib.hid (HB.out.trans b2)
      have CC := Lib.hid (cmpt_call w.heap.size _ (srtI (nearL l st mo sf)) (by rw [srtI_len]; exact LN.out) w2 o2 B2.out.size)
      clear SC o2 b2 HB
      go_wp2_with fail
      refine CC.out.mono ?_
      rintro e w3 ⟨v3, rfl, o3, b3⟩
      rw [near_ar] at o3
      have O3 := Lib.hid o3
      have B3 := Lib.hid (B2.out.trans b3)
      clear CC o3 b3 B2
      go_wp2_with fail
      go_ret
      exact ⟨_, rfl, O3.out, B3.out⟩
end Go.Proofs.Ytibakhobgfiklaa
