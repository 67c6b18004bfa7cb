/-
  The reference's closure: what the call answers; nothing that existed before the call has changed behind it. Condition: valid lists of at most 100000 footpaths, at most 64 stops.
-/
import Derived.Test.YtibakhobgfiklaaFpJ
import Derived.Test.YtibakhobgfiklaaFpC
import Derived.Test.YtibakhobgfiklaaDrH
namespace Go.Proofs.Ytibakhobgfiklaa
open Go.RowKit Go.Sort

/-- The cells of an entry of a matrix that was handed back. -/
theorem LL.entry {w : World} {A : Option Addr} {n c : Nat} {m : List (List Int)} (h : LL w (.slice A n c) m) (hq : Sq n m) {i j : Nat} (hi : i < n) (hj : j < n) :
    ∃ gb go b o k, A = some ⟨gb, go, none⟩ ∧ w.cell? ⟨gb, go + i, none⟩ = some (.slice (some ⟨b, o, none⟩) n k) ∧ w.cell? ⟨b, o + j, none⟩ = some (.int .i64 (mg m i j)) := by
  obtain ⟨g, hg, hl, hx, -⟩ := mg_row hq hi
  obtain ⟨-, gb, go, t, hA, -, c1, li⟩ := h.at hg
  obtain ⟨A2, c2, hv, -⟩ := _root_.id li
  rw [hv] at c1 li
  obtain ⟨b, o, rfl, -, c3⟩ := int_cell li (hx j hj)
  rw [hl] at c1
  exact ⟨gb, go, b, o, c2, hA, c1, c3⟩
/-- .. in every world behind this one. -/
theorem LL.entryB {w : World} {A : Option Addr} {n c : Nat} {m : List (List Int)} (h : LL w (.slice A n c) m) (hq : Sq n m) {i j : Nat} (hi : i < n) (hj : j < n) :
    ∃ gb go b o k, A = some ⟨gb, go, none⟩ ∧ ∀ W, RowKit.Below w.heap.size w W → W.cell? ⟨gb, go + i, none⟩ = some (.slice (some ⟨b, o, none⟩) n k) ∧ W.cell? ⟨b, o + j, none⟩ = some (.int .i64 (mg m i j)) := by
  obtain ⟨gb, go, b, o, k, hA, c1, c2⟩ := h.entry hq hi hj
  exact ⟨gb, go, b, o, k, hA, fun W hW => ⟨(hW.cell (p := ⟨gb, go + i, none⟩) (World.block_lt_of_cell? _ _ c1)).trans c1, (hW.cell (p := ⟨b, o + j, none⟩) (World.block_lt_of_cell? _ _ c2)).trans c2⟩⟩
theorem of_if {c : Bool} {A E : Prop} (h : if c = true then A else E) (hc : c = true) : A := by rw [if_pos hc] at h; exact h
/-- The region's table: what waits for what. -/
def skC : List Sk := [([], some 39, [7]), ([], some 40, [8]), ([], some 41, [9]), ([], some 42, [5]), ([], some 43, [8]), ([3, 4], some 44, [42, 43]), ([5], some 45, [44]), ([], some 46, [9]), ([6, 7], some 47, [45, 46]), ([8], some 48, [47]), ([], some 49, [6]), ([], some 50, [8]), ([10, 11], some 51, [49, 50]), ([12], some 52, [51]), ([], some 53, [9]), ([13, 14], some 54, [52, 53]), ([15], some 55, [54]), ([], some 56, [5]), ([], some 57, [8]), ([17, 18], some 58, [56, 57]), ([19], some 59, [58]), ([], some 60, [9]), ([20, 21], some 61, [59, 60]), ([22], some 62, [61]), ([16, 23], some 63, [55, 62]), ([1, 2, 9, 24], some 64, [40, 41, 48, 63]), ([25], some 65, [64]), ([0, 26], some 66, [39, 65]), ([27, 27, 0, 1, 2, 3, 4, 5, 6, 7, 8, 9, 10, 11, 12, 13, 14, 15, 16, 17, 18, 19, 20, 21, 22, 23, 24, 25, 26, 27], some 7, [66])]
/-- Whether the free time is that of all. -/
theorem same_time {t : Option Nat} {f a : Int} {W : Nat} (h : (t = none ∧ 14400 < f) ∨ ∃ V : Nat, t = some V ∧ f = (V : Int) ∧ V ≤ 14400) (ha : a = (W : Int)) (hW : W ≤ 14400) : (f == a) = decide (t = some W) := by
  rcases h with ⟨e, h1⟩ | ⟨V, e, h1, h2⟩
  · rw [e, beq_false (by omega), decide_eq_false (by simp)]
  · rw [e]
    by_cases hV : V = W
    · rw [beq_true (by omega), decide_eq_true (by rw [hV])]
    · rw [beq_false (by omega), decide_eq_false (fun e => hV (Option.some.inj e))]
set_option maxRecDepth 100000 in
set_option maxHeartbeats 8000000 in
theorem rclo_any (v : Value) (l : List Fp) (hl : l.length ≤ 4096) (st : Int) (hst : st ≤ 64) (hok : OkP st.toNat l) (w : World) (h : LstF w v l) :
    Calls Try.prog 28 #[v, .int .i64 st] w fun e w' => ∃ v', e = .returned v' ∧ LstF w' v' (cloE st l) ∧ RowKit.Below w.heap.size w w' := by
  have hh := h
  obtain ⟨A0, c0, rfl, -⟩ := hh
  have T1 := Lib.hid (rtimes_any (.slice A0 l.length c0) l (by omega) st hst hok false w h)
  have T2 := Lib.hid (fun W (hb : RowKit.Below w.heap.size w W) => rtimes_any (.slice A0 l.length c0) l (by omega) st hst hok true W (h.below hb))
  obtain ⟨n, hn⟩ : ∃ n, st.toNat = n := ⟨_, rfl⟩
  have HN : Hid (∀ i : Nat, ((i : Int) < st ↔ i < n)) := Lib.hid fun i => by omega
  have n64 : n ≤ 64 := by omega
  have TA := Lib.hid (tm_spec (ed_inn (sf := false) hok) (by omega))
  have TF := Lib.hid (tm_spec (ed_inn (sf := true) hok) (by omega))
  have IA := Lib.hid (ed_inn (sf := false) hok)
  have IF := Lib.hid (ed_inn (sf := true) hok)
  rw [hn] at T1 T2 TA TF IA IF
  obtain ⟨ta, hta⟩ : ∃ t, tmE n (edF false l) = t := ⟨_, rfl⟩
  obtain ⟨tf, htf⟩ : ∃ t, tmE n (edF true l) = t := ⟨_, rfl⟩
  rw [hta] at TA
  rw [htf] at TF
  have CE : Hid (cloK ta tf n n = cloE st l) := by show _ = _; unfold cloE cloC; rw [hn, hta, htf]
  have KL : Hid (∀ i j, i < n → j ≤ n → (cloK ta tf n i ++ rowC ta tf i j).length ≤ 10000) := by
    intro i j hi hj
    have e1 : ∀ a b, (entC ta tf a b).length ≤ 2 := by
      intro a b
      unfold entC
      cases ta a b with
      | none => simp
      | some x =>
        cases tf a b with
        | none => simp
        | some y => simp only; split <;> simp
    have e2 : ∀ a b, (rowC ta tf a b).length ≤ b * 2 := by
      intro a b
      induction b with
      | zero => simp [rowC]
      | succ b ih =>
        by_cases hab : a = b
        · subst hab; rw [row_same]; omega
        · rw [row_next hab, List.length_append]; have := e1 a b; omega
    have e3 : ∀ a, (cloK ta tf n a).length ≤ a * (n * 2) := by
      intro a
      induction a with
      | zero => simp [cloK]
      | succ a ih => rw [clo_next, List.length_append, Nat.add_mul, Nat.one_mul]; have := e2 a n; omega
    have h1 := e3 i
    have h2 := e2 i j
    have h3 : i * (n * 2) ≤ 64 * 128 := Nat.mul_le_mul (by omega) (by omega)
    rw [List.length_append]
    omega
  clear h hl hst hok hn hta htf
  go_enter Try.func28, Try.ntmps28
  go_wp2_with fail
  refine T1.out.mono ?_
  rintro e w1 ⟨v1, ma, rfl, l1, b1, f1⟩
  have L1 := Lib.hid l1
  have B1 := Lib.hid b1
  have F1 := Lib.hid f1
  have T2' := Lib.hid (T2.out w1 b1)
  obtain ⟨A1, c1, rfl⟩ := l1.len
  clear T1 T2 l1 b1 f1
  go_wp2_with fail
  refine T2'.out.mono ?_
  rintro e w2 ⟨v2, mf, rfl, l2, b2, f2⟩
  have L2 := Lib.hid l2
  have B2 := Lib.hid (B1.out.trans (b2.mono B1.out.size))
  have F2 := Lib.hid f2
  have L1' := Lib.hid (L1.out.below b2)
  obtain ⟨A2, c2, rfl⟩ := l2.len
  have hma : ma.length = n := F1.out.sq.1
  have hmf : mf.length = n := F2.out.sq.1
  rw [hma] at L1'
  rw [hmf] at L2
  rw [hma, hmf]
  clear T2' l2 b2 f2 L1 B1 hma hmf
  go_wp2_with fail
  go_loopw [7, 8] (fun u i wr => ∃ k : Nat, i = .int .i64 (k : Int) ∧ k ≤ n ∧ Hid (OwnF wr w2.heap.size u (cloK ta tf n k)) ∧ Hid (RowKit.Below w2.heap.size w2 wr)) (fun _ i _ => n - (intOf i).toNat)
  case atStart => exact ⟨0, rfl, Nat.zero_le _, Lib.hid (OwnG.nil _ _ _ _ _), Lib.hid (RowKit.Below.refl _ _)⟩
  case round =>
    obtain ⟨i, rfl, hi, HO, HB⟩ := hrel
    by_cases hlt : (i : Int) < st
    · as_aux_lemma =>
      have hin := (HN.out i).1 hlt
      have INH := Lib.hid hin
      have O0 : Hid (OwnF wr w2.heap.size u7 (cloK ta tf n i ++ rowC ta tf i 0)) := by
        show OwnG _ _ _ _ _ _ _
        have : rowC ta tf i 0 = [] := rfl
        rw [this, List.append_nil]
        exact HO.out
      clear hin HO
      go_wp2_with fail
      go_loopw [7, 9] (fun u j wr => ∃ k : Nat, j = .int .i64 (k : Int) ∧ k ≤ n ∧ Hid (OwnF wr w2.heap.size u (cloK ta tf n i ++ rowC ta tf i k)) ∧ Hid (RowKit.Below w2.heap.size w2 wr)) (fun _ j _ => n - (intOf j).toNat)
      case atStart => exact ⟨0, rfl, Nat.zero_le _, O0, HB⟩
      case round =>
        clear O0 HB
        obtain ⟨j, rfl, hj, HO, HB⟩ := hrel
        by_cases hlj : (j : Int) < st
        · have hjn := (HN.out j).1 hlj
          have JN := Lib.hid hjn
          by_cases hij : i = j
          · have t := beq_true (a := (i : Int)) (b := (j : Int)) (by omega)
            have N : Hid (OwnF wr w2.heap.size u7 (cloK ta tf n i ++ rowC ta tf i (j + 1))) := by
              show OwnG _ _ _ _ _ _ _
              have := HO.out
              rw [← hij] at this
              rw [← hij, row_same]
              exact this
            clear hij HO hjn
            go_wp2_with fail
            go_roundw
            case rel => exact ⟨j + 1, by go_num, JN.out, N, HB⟩
            case measure => have := JN.out; simp [intOf]; omega
          · have t := beq_false (a := (i : Int)) (b := (j : Int)) (by omega)
            obtain ⟨ga, goa, ba, oa, ka, rfl, a0⟩ := LL.entryB L1'.out F1.out.sq INH.out hjn
            obtain ⟨gf, gof, bf, of, kf', rfl, x0⟩ := LL.entryB L2.out F2.out.sq INH.out hjn
            have HQ0 := Lib.hid (And.intro a0 x0)
            obtain ⟨a1, a2⟩ := a0 wr HB.out
            obtain ⟨x1, x2⟩ := x0 wr HB.out
            clear a0 x0
            have ha := fw_time TA.out IA.out F1.out INH.out hjn hij
            have hf := fw_time TF.out IF.out F2.out INH.out hjn hij
            obtain ⟨p, hp⟩ : ∃ p, mg ma i j = p := ⟨_, rfl⟩
            obtain ⟨q, hq⟩ : ∃ q, mg mf i j = q := ⟨_, rfl⟩
            rw [hp] at a2 ha HQ0
            rw [hq] at x2 hf HQ0
            have HQ : Hid (∀ W, RowKit.Below w2.heap.size w2 W → W.cell? ⟨ga, goa + i, none⟩ = some (.slice (some ⟨ba, oa, none⟩) n ka) ∧ W.cell? ⟨ba, oa + j, none⟩ = some (.int .i64 p) ∧ W.cell? ⟨gf, gof + i, none⟩ = some (.slice (some ⟨bf, of, none⟩) n kf') ∧ W.cell? ⟨bf, of + j, none⟩ = some (.int .i64 q)) := Lib.hid fun W hW => ⟨(HQ0.out.1 W hW).1, (HQ0.out.1 W hW).2, (HQ0.out.2 W hW).1, (HQ0.out.2 W hW).2⟩
            clear HQ0
            have gi : (i : Int) < (n : Int) := by have := INH.out; omega
            have gj : (j : Int) < (n : Int) := by omega
            have RN := row_next (ta := ta) (tf := tf) hij
            clear hp hq hij
            rcases ha with ⟨e, hpn⟩ | ⟨W, e, hpW, hW⟩
            · have N : Hid (OwnF wr w2.heap.size u7 (cloK ta tf n i ++ rowC ta tf i (j + 1))) := by
                show OwnG _ _ _ _ _ _ _
                rw [RN, ent_none e, List.append_nil]
                exact HO.out
              clear HO e RN hjn hf
              go_wp2_with fail
              go_roundw
              case rel => exact ⟨j + 1, by go_num, JN.out, N, HB⟩
              case measure => have := JN.out; simp [intOf]; omega
            · have d14 : decide (14400 < p) = false := decide_eq_false (by omega)
              have SE := same_time hf hpW hW
              obtain ⟨d0, hd0⟩ : ∃ d, decide (tf i j = some W) = d := ⟨_, rfl⟩
              rw [hd0] at SE
              have hll : (cloK ta tf n i ++ rowC ta tf i j).length ≤ 10000 := KL.out i j INH.out hj
              have MQ : Hid (∀ W, RowKit.Below w2.heap.size w2 W → W.cell? ⟨ga, goa + i, none⟩ = some (.slice (some ⟨ba, oa, none⟩) n ka) ∧ W.cell? ⟨ba, oa + j, none⟩ = some (.int .i64 p) ∧ W.cell? ⟨gf, gof + i, none⟩ = some (.slice (some ⟨bf, of, none⟩) n kf') ∧ W.cell? ⟨bf, of + j, none⟩ = some (.int .i64 q)) := Lib.hid fun W hW => HQ.out W hW
              -- what the entries are
              have E2 : Hid (p < q ∧ q ≤ 14400 → rowC ta tf i (j + 1) = rowC ta tf i j ++ [((i : Int), (j : Int), p, d0)] ++ [((i : Int), (j : Int), q, true)]) := by
                rintro ⟨h1, h2⟩
                rcases hf with ⟨-, h3⟩ | ⟨f, ef, h4, -⟩
                · omega
                · rw [RN, ent_two e ef (by omega), ← hd0, ef, hpW, h4, decide_eq_false (fun e => by have := Option.some.inj e; omega), List.append_assoc]
                  rfl
              have E1 : Hid (¬ (p < q ∧ q ≤ 14400) → rowC ta tf i (j + 1) = rowC ta tf i j ++ [((i : Int), (j : Int), p, d0)]) := by
                intro h1
                rw [RN, ent_one e (fun f ef hlt => h1 (by
                  rcases hf with ⟨e2, -⟩ | ⟨f', ef', h4, h5⟩
                  · rw [e2] at ef; cases ef
                  · rw [ef'] at ef
                    have := Option.some.inj ef
                    omega)), hd0, hpW]
              have HJ := Lib.hid (And.intro INH.out JN.out)
              clear e RN hf hpW hW hd0 hjn hj
              go_wp2_with fail
              refine startT (S := fun W => RowKit.Below w2.heap.size w2 W) skC 29 (by kernel_rfl) (by kernel_rfl) (by kernel_rfl) (by kernel_rfl) (bitsL 29 0) (by kernel_rfl) HB.out.drew (fun hHeld => ?_)
              obtain ⟨w4, hw4⟩ : ∃ W, wr.drew = W := ⟨_, rfl⟩
              have HO4 : Hid (OwnF w4 w2.heap.size u7 (cloK ta tf n i ++ rowC ta tf i j)) := by show OwnG _ _ _ _ _ _ _; rw [← hw4]; exact HO.out.below (RowKit.Below.refl _ _).drew
              rw [hw4] at hHeld ⊢
              have HB4 := Lib.hid hHeld
              have hz4 := hHeld.size
              clear hw4 HO HB a1 a2 x1 x2
              refine takeT (i := 0) (v := ?_) (a' := ?_) 39 (bitsL 29 1) (by kernel_rfl) rfl rfl (by kernel_rfl) (fun _ _ _ h => h) (Or.inl ⟨by rfl, ?_⟩) (by assumption) ?_ ?_
              rotate_left 2
              · intro W hW
                go_simp
                try with_reducible rfl
              · simp only [Act.put, List.setIfInBounds_toArray, List.set_cons_zero, List.set_cons_succ]
                try with_reducible rfl
              refine takeT (i := 1) (v := ?_) (a' := ?_) 40 (bitsL 29 3) (by kernel_rfl) rfl rfl (by kernel_rfl) (fun _ _ _ h => h) (Or.inl ⟨by rfl, ?_⟩) (by assumption) ?_ ?_
              rotate_left 2
              · intro W hW
                go_simp
                try with_reducible rfl
              · simp only [Act.put, List.setIfInBounds_toArray, List.set_cons_zero, List.set_cons_succ]
                try with_reducible rfl
              refine takeT (i := 2) (v := ?_) (a' := ?_) 41 (bitsL 29 7) (by kernel_rfl) rfl rfl (by kernel_rfl) (fun _ _ _ h => h) (Or.inl ⟨by rfl, ?_⟩) (by assumption) ?_ ?_
              rotate_left 2
              · intro W hW
                go_simp
                try with_reducible rfl
              · simp only [Act.put, List.setIfInBounds_toArray, List.set_cons_zero, List.set_cons_succ]
                try with_reducible rfl
              refine takeT (i := 3) (v := ?_) (a' := ?_) 42 (bitsL 29 15) (by kernel_rfl) rfl rfl (by kernel_rfl) (fun _ _ _ h => h) (Or.inl ⟨by rfl, ?_⟩) (by assumption) ?_ ?_
              rotate_left 2
              · intro W hW
                go_simp
                try with_reducible rfl
              · simp only [Act.put, List.setIfInBounds_toArray, List.set_cons_zero, List.set_cons_succ]
                try with_reducible rfl
              refine takeT (i := 4) (v := ?_) (a' := ?_) 43 (bitsL 29 31) (by kernel_rfl) rfl rfl (by kernel_rfl) (fun _ _ _ h => h) (Or.inl ⟨by rfl, ?_⟩) (by assumption) ?_ ?_
              rotate_left 2
              · intro W hW
                go_simp
                try with_reducible rfl
              · simp only [Act.put, List.setIfInBounds_toArray, List.set_cons_zero, List.set_cons_succ]
                try with_reducible rfl
              refine takeT (i := 5) (v := ?_) (a' := ?_) 44 (bitsL 29 63) (by kernel_rfl) rfl rfl (by kernel_rfl) (fun _ _ _ h => h) (Or.inl ⟨by rfl, ?_⟩) (by assumption) ?_ ?_
              rotate_left 2
              · intro W hW
                go_simp
                try with_reducible rfl
              · simp only [Act.put, List.setIfInBounds_toArray, List.set_cons_zero, List.set_cons_succ]
                try with_reducible rfl
              refine takeT (i := 6) (v := ?_) (a' := ?_) 45 (bitsL 29 127) (by kernel_rfl) rfl rfl (by kernel_rfl) (fun _ _ _ h => h) (Or.inl ⟨by rfl, ?_⟩) (by assumption) ?_ ?_
              rotate_left 2
              · intro W hW
                have q0 := (MQ.out W hW).1
                go_simp
                try with_reducible rfl
              · simp only [Act.put, List.setIfInBounds_toArray, List.set_cons_zero, List.set_cons_succ]
                try with_reducible rfl
              refine takeT (i := 7) (v := ?_) (a' := ?_) 46 (bitsL 29 255) (by kernel_rfl) rfl rfl (by kernel_rfl) (fun _ _ _ h => h) (Or.inl ⟨by rfl, ?_⟩) (by assumption) ?_ ?_
              rotate_left 2
              · intro W hW
                go_simp
                try with_reducible rfl
              · simp only [Act.put, List.setIfInBounds_toArray, List.set_cons_zero, List.set_cons_succ]
                try with_reducible rfl
              refine takeT (i := 8) (v := ?_) (a' := ?_) 47 (bitsL 29 511) (by kernel_rfl) rfl rfl (by kernel_rfl) (fun _ _ _ h => h) (Or.inl ⟨by rfl, ?_⟩) (by assumption) ?_ ?_
              rotate_left 2
              · intro W hW
                go_simp
                try with_reducible rfl
              · simp only [Act.put, List.setIfInBounds_toArray, List.set_cons_zero, List.set_cons_succ]
                try with_reducible rfl
              refine takeT (i := 9) (v := ?_) (a' := ?_) 48 (bitsL 29 1023) (by kernel_rfl) rfl rfl (by kernel_rfl) (fun _ _ _ h => h) (Or.inl ⟨by rfl, ?_⟩) (by assumption) ?_ ?_
              rotate_left 2
              · intro W hW
                have q0 := (MQ.out W hW).2.1
                go_simp
                try with_reducible rfl
              · simp only [Act.put, List.setIfInBounds_toArray, List.set_cons_zero, List.set_cons_succ]
                try with_reducible rfl
              refine takeT (i := 10) (v := ?_) (a' := ?_) 49 (bitsL 29 2047) (by kernel_rfl) rfl rfl (by kernel_rfl) (fun _ _ _ h => h) (Or.inl ⟨by rfl, ?_⟩) (by assumption) ?_ ?_
              rotate_left 2
              · intro W hW
                go_simp
                try with_reducible rfl
              · simp only [Act.put, List.setIfInBounds_toArray, List.set_cons_zero, List.set_cons_succ]
                try with_reducible rfl
              refine takeT (i := 11) (v := ?_) (a' := ?_) 50 (bitsL 29 4095) (by kernel_rfl) rfl rfl (by kernel_rfl) (fun _ _ _ h => h) (Or.inl ⟨by rfl, ?_⟩) (by assumption) ?_ ?_
              rotate_left 2
              · intro W hW
                go_simp
                try with_reducible rfl
              · simp only [Act.put, List.setIfInBounds_toArray, List.set_cons_zero, List.set_cons_succ]
                try with_reducible rfl
              refine takeT (i := 12) (v := ?_) (a' := ?_) 51 (bitsL 29 8191) (by kernel_rfl) rfl rfl (by kernel_rfl) (fun _ _ _ h => h) (Or.inl ⟨by rfl, ?_⟩) (by assumption) ?_ ?_
              rotate_left 2
              · intro W hW
                go_simp
                try with_reducible rfl
              · simp only [Act.put, List.setIfInBounds_toArray, List.set_cons_zero, List.set_cons_succ]
                try with_reducible rfl
              refine takeT (i := 13) (v := ?_) (a' := ?_) 52 (bitsL 29 16383) (by kernel_rfl) rfl rfl (by kernel_rfl) (fun _ _ _ h => h) (Or.inl ⟨by rfl, ?_⟩) (by assumption) ?_ ?_
              rotate_left 2
              · intro W hW
                have q0 := (MQ.out W hW).2.2.1
                go_simp
                try with_reducible rfl
              · simp only [Act.put, List.setIfInBounds_toArray, List.set_cons_zero, List.set_cons_succ]
                try with_reducible rfl
              refine takeT (i := 14) (v := ?_) (a' := ?_) 53 (bitsL 29 32767) (by kernel_rfl) rfl rfl (by kernel_rfl) (fun _ _ _ h => h) (Or.inl ⟨by rfl, ?_⟩) (by assumption) ?_ ?_
              rotate_left 2
              · intro W hW
                go_simp
                try with_reducible rfl
              · simp only [Act.put, List.setIfInBounds_toArray, List.set_cons_zero, List.set_cons_succ]
                try with_reducible rfl
              refine takeT (i := 15) (v := ?_) (a' := ?_) 54 (bitsL 29 65535) (by kernel_rfl) rfl rfl (by kernel_rfl) (fun _ _ _ h => h) (Or.inl ⟨by rfl, ?_⟩) (by assumption) ?_ ?_
              rotate_left 2
              · intro W hW
                go_simp
                try with_reducible rfl
              · simp only [Act.put, List.setIfInBounds_toArray, List.set_cons_zero, List.set_cons_succ]
                try with_reducible rfl
              refine takeT (i := 16) (v := ?_) (a' := ?_) 55 (bitsL 29 131071) (by kernel_rfl) rfl rfl (by kernel_rfl) (fun _ _ _ h => h) (Or.inl ⟨by rfl, ?_⟩) (by assumption) ?_ ?_
              rotate_left 2
              · intro W hW
                have q0 := (MQ.out W hW).2.2.2
                go_simp
                try with_reducible rfl
              · simp only [Act.put, List.setIfInBounds_toArray, List.set_cons_zero, List.set_cons_succ]
                try with_reducible rfl
              refine takeT (i := 17) (v := ?_) (a' := ?_) 56 (bitsL 29 262143) (by kernel_rfl) rfl rfl (by kernel_rfl) (fun _ _ _ h => h) (Or.inl ⟨by rfl, ?_⟩) (by assumption) ?_ ?_
              rotate_left 2
              · intro W hW
                go_simp
                try with_reducible rfl
              · simp only [Act.put, List.setIfInBounds_toArray, List.set_cons_zero, List.set_cons_succ]
                try with_reducible rfl
              refine takeT (i := 18) (v := ?_) (a' := ?_) 57 (bitsL 29 524287) (by kernel_rfl) rfl rfl (by kernel_rfl) (fun _ _ _ h => h) (Or.inl ⟨by rfl, ?_⟩) (by assumption) ?_ ?_
              rotate_left 2
              · intro W hW
                go_simp
                try with_reducible rfl
              · simp only [Act.put, List.setIfInBounds_toArray, List.set_cons_zero, List.set_cons_succ]
                try with_reducible rfl
              refine takeT (i := 19) (v := ?_) (a' := ?_) 58 (bitsL 29 1048575) (by kernel_rfl) rfl rfl (by kernel_rfl) (fun _ _ _ h => h) (Or.inl ⟨by rfl, ?_⟩) (by assumption) ?_ ?_
              rotate_left 2
              · intro W hW
                go_simp
                try with_reducible rfl
              · simp only [Act.put, List.setIfInBounds_toArray, List.set_cons_zero, List.set_cons_succ]
                try with_reducible rfl
              refine takeT (i := 20) (v := ?_) (a' := ?_) 59 (bitsL 29 2097151) (by kernel_rfl) rfl rfl (by kernel_rfl) (fun _ _ _ h => h) (Or.inl ⟨by rfl, ?_⟩) (by assumption) ?_ ?_
              rotate_left 2
              · intro W hW
                have q0 := (MQ.out W hW).1
                go_simp
                try with_reducible rfl
              · simp only [Act.put, List.setIfInBounds_toArray, List.set_cons_zero, List.set_cons_succ]
                try with_reducible rfl
              refine takeT (i := 21) (v := ?_) (a' := ?_) 60 (bitsL 29 4194303) (by kernel_rfl) rfl rfl (by kernel_rfl) (fun _ _ _ h => h) (Or.inl ⟨by rfl, ?_⟩) (by assumption) ?_ ?_
              rotate_left 2
              · intro W hW
                go_simp
                try with_reducible rfl
              · simp only [Act.put, List.setIfInBounds_toArray, List.set_cons_zero, List.set_cons_succ]
                try with_reducible rfl
              refine takeT (i := 22) (v := ?_) (a' := ?_) 61 (bitsL 29 8388607) (by kernel_rfl) rfl rfl (by kernel_rfl) (fun _ _ _ h => h) (Or.inl ⟨by rfl, ?_⟩) (by assumption) ?_ ?_
              rotate_left 2
              · intro W hW
                go_simp
                try with_reducible rfl
              · simp only [Act.put, List.setIfInBounds_toArray, List.set_cons_zero, List.set_cons_succ]
                try with_reducible rfl
              refine takeT (i := 23) (v := ?_) (a' := ?_) 62 (bitsL 29 16777215) (by kernel_rfl) rfl rfl (by kernel_rfl) (fun _ _ _ h => h) (Or.inl ⟨by rfl, ?_⟩) (by assumption) ?_ ?_
              rotate_left 2
              · intro W hW
                have q0 := (MQ.out W hW).2.1
                go_simp
                try with_reducible rfl
              · simp only [Act.put, List.setIfInBounds_toArray, List.set_cons_zero, List.set_cons_succ]
                try with_reducible rfl
              refine takeT (i := 24) (v := ?_) (a' := ?_) 63 (bitsL 29 33554431) (by kernel_rfl) rfl rfl (by kernel_rfl) (fun _ _ _ h => h) (Or.inl ⟨by rfl, ?_⟩) (by assumption) ?_ ?_
              rotate_left 2
              · intro W hW
                go_simp
                try with_reducible rfl
              · simp only [Act.put, List.setIfInBounds_toArray, List.set_cons_zero, List.set_cons_succ]
                try with_reducible rfl
              refine takeT (i := 25) (v := ?_) (a' := ?_) 64 (bitsL 29 67108863) (by kernel_rfl) rfl rfl (by kernel_rfl) (fun _ _ _ h => h) (Or.inl ⟨by rfl, ?_⟩) (by assumption) ?_ ?_
              rotate_left 2
              · intro W hW
                go_simp
                try with_reducible rfl
              · simp only [Act.put, List.setIfInBounds_toArray, List.set_cons_zero, List.set_cons_succ]
                try with_reducible rfl
              obtain ⟨w5, hw5⟩ : ∃ W, w4.alloc (boxF (i : Int) (j : Int) p d0) = W := ⟨_, rfl⟩
              have c5 : w5.heap[w4.heap.size]? = some (boxF (i : Int) (j : Int) p d0) := by rw [← hw5]; exact heap_alloc_new _ _
              have b5 : RowKit.Below w4.heap.size w4 w5 := by rw [← hw5]; exact (RowKit.Below.refl _ _).alloc (Nat.le_refl _) _
              have HO5 := Lib.hid (HO4.out.below b5)
              have HB5 := Lib.hid (HB4.out.trans (b5.mono hz4))
              have hz5 := HB5.out.size
              refine makeT (i := 26) (v := .slice (some ⟨w4.heap.size, 0, none⟩) 1 1) (w' := w5) (a' := ?_) 65 (bitsL 29 134217727) (by kernel_rfl) (by kernel_rfl) rfl rfl (by rfl) (by rw [← hw5]; kernel_rfl) HB5.out ?_ ?_
              rotate_left 1
              · simp only [Act.put, List.setIfInBounds_toArray, List.set_cons_zero, List.set_cons_succ]
                try with_reducible rfl
              clear hw5 hHeld b5 HB4 HO4
              refine oneT (i := 27) (bitsL 29 268435455) (by kernel_rfl) (by kernel_rfl) rfl (by rfl) (fun K hK => ?_)
              refine of_if (E := True) (stepG_one (ops := #[]) fe_len fe_one (by decide) Try.underlying22 info_fp rfl (by decide) _ rfl _ _ rfl w2.heap.size _ (cloK ta tf n i ++ rowC ta tf i j) ((i : Int), (j : Int), p, d0) rfl HO5.out w4.heap.size _ c5 rfl rfl hz5 (by omega) ?_) (by rfl)
              intro u2 w10 own10 b10 _
              change K (Act.put _ (some 66) u2) _
              have O10 := Lib.hid own10
              have B10 := Lib.hid (HB5.out.trans b10)
              refine hK.out _ _ B10.out (fun hHeld => ?_)
              clear own10 b10 hK HB5 HO5 c5
              refine actT (a' := ?_) ?_ ?_
              rotate_left 1
              · simp only [Act.put, List.setIfInBounds_toArray, List.set_cons_zero, List.set_cons_succ]
                try with_reducible rfl
              refine takeT (i := 28) (v := ?_) (a' := ?_) 7 (bitsL 29 536870911) (by kernel_rfl) rfl rfl (by kernel_rfl) (fun _ _ _ h => h) (Or.inl ⟨by rfl, ?_⟩) (by assumption) ?_ ?_
              rotate_left 2
              · intro W hW
                go_simp
                try with_reducible rfl
              · simp only [Act.put, List.setIfInBounds_toArray, List.set_cons_zero, List.set_cons_succ]
                try with_reducible rfl
              refine doneT (by kernel_rfl) ?_
              clear hHeld MQ
              obtain ⟨a1, a2, x1, x2⟩ := HQ.out w10 B10.out
              clear SE
              by_cases h1 : p < q
              · by_cases h2 : q ≤ 14400
                · have N := Lib.hid (E2.out ⟨h1, h2⟩)
                  clear E1 E2
                  go_wp2_with fail
                  go_quiet (fail)
                  have BQ := Lib.hid (below_drewN B10.out nq)
                  have OQ := Lib.hid (O10.out.below (below_drewN (RowKit.Below.refl _ _) nq))
                  obtain ⟨a1, a2, x1, x2⟩ := HQ.out _ BQ.out
                  generalize w10.drewN nq = w11 at BQ OQ a1 a2 x1 x2 ⊢
                  have hz := BQ.out.size
                  clear B10 O10
                  go_wp2_with (at_builtin; refine appG_one fe_len fe_one (by decide) Try.underlying22 info_fp rfl (by decide) _ rfl (.tmp 92) (.tmp 103) rfl w2.heap.size _ (cloK ta tf n i ++ rowC ta tf i j ++ [((i : Int), (j : Int), p, d0)]) ((i : Int), (j : Int), q, true) rfl (World.ownsRow.alloc OQ.out _) w11.heap.size _ (heap_alloc_new _ _) rfl rfl (by simp; omega) (by rw [List.length_append, List.length_singleton]; omega) ?_; intro u3 w12 own12 b12 _ _; refine Hid.out ?_)
                  refine Lib.hid ?_
                  have O12 : Hid (OwnF w12 w2.heap.size u3 (cloK ta tf n i ++ rowC ta tf i (j + 1))) := by
                    show OwnG _ _ _ _ _ _ _
                    rw [N.out]
                    simp only [← List.append_assoc]
                    exact own12
                  have B12 := Lib.hid ((BQ.out.alloc hz _).trans b12)
                  clear own12 b12 OQ BQ N hz hll a1 a2 x1 x2
                  go_wp2_with fail
                  go_roundw
                  case rel => exact ⟨j + 1, by go_num, JN.out, O12, B12⟩
                  case measure => have := JN.out; simp [intOf]; omega
                · have dq : decide (q ≤ 14400) = false := decide_eq_false h2
                  have N := Lib.hid (E1.out (fun h => h2 h.2))
                  clear E1 E2 h2
                  go_wp2_with fail
                  go_quiet (fail)
                  have BQ := Lib.hid (below_drewN B10.out nq)
                  have OQ : Hid (OwnF (w10.drewN nq) w2.heap.size u2 (cloK ta tf n i ++ rowC ta tf i (j + 1))) := by
                    show OwnG _ _ _ _ _ _ _
                    rw [N.out, ← List.append_assoc]
                    exact O10.out.below (below_drewN (RowKit.Below.refl _ _) nq)
                  generalize w10.drewN nq = w11 at BQ OQ ⊢
                  clear B10 O10 N a1 a2 x1 x2 hll
                  go_wp2_with fail
                  go_roundw
                  case rel => exact ⟨j + 1, by go_num, JN.out, OQ, BQ⟩
                  case measure => have := JN.out; simp [intOf]; omega
              · have dp : decide (p < q) = false := decide_eq_false h1
                have N := Lib.hid (E1.out (fun h => h1 h.1))
                clear E1 E2 h1
                go_wp2_with fail
                go_quiet (fail)
                have BQ := Lib.hid (below_drewN B10.out nq)
                have OQ : Hid (OwnF (w10.drewN nq) w2.heap.size u2 (cloK ta tf n i ++ rowC ta tf i (j + 1))) := by
                  show OwnG _ _ _ _ _ _ _
                  rw [N.out, ← List.append_assoc]
                  exact O10.out.below (below_drewN (RowKit.Below.refl _ _) nq)
                generalize w10.drewN nq = w11 at BQ OQ ⊢
                clear B10 O10 N a1 a2 x1 x2 hll
                go_wp2_with fail
                go_roundw
                case rel => exact ⟨j + 1, by go_num, JN.out, OQ, BQ⟩
                case measure => have := JN.out; simp [intOf]; omega
        · have dj : decide ((j : Int) < st) = false := decide_eq_false hlj
          have hjn : j = n := by
            rcases Nat.lt_or_ge j n with h1 | h1
            · exact absurd ((HN.out j).2 h1) hlj
            · omega
          have N : Hid (OwnF wr w2.heap.size u7 (cloK ta tf n (i + 1))) := by
            show OwnG _ _ _ _ _ _ _
            have := HO.out
            rw [hjn, ← clo_next] at this
            exact this
          clear hlj hjn HO
          go_wp2_with fail
          go_roundw
          case rel => exact ⟨i + 1, by go_num, INH.out, N, HB⟩
          case measure => have := INH.out; simp [intOf]; omega
    · have di : decide ((i : Int) < st) = false := decide_eq_false hlt
      have hin : i = n := by
        rcases Nat.lt_or_ge i n with h1 | h1
        · exact absurd ((HN.out i).2 h1) hlt
        · omega
      have K : Hid (LstF wr u7 (cloE st l) ∧ RowKit.Below w.heap.size w wr) := by
        have := HO.out
        rw [hin, CE.out] at this
        exact ⟨OwnG.lst this, B2.out.trans (HB.out.mono B2.out.size)⟩
      clear hlt hin HO HB
      go_wp2_with fail
      go_ret
      exact ⟨_, rfl, K.out⟩
end Go.Proofs.Ytibakhobgfiklaa
