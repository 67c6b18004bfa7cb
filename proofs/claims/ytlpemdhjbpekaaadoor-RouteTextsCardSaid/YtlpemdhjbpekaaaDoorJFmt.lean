/-
  FormatModes of package route: what the call answers; nothing that existed before the call has changed behind it. Condition: a set of modes of 64 bits; the tables as their initialisers lay them.
-/
import Derived.Test.YtlpemdhjbpekaaaDoorJMod
import Derived.Test.YtlpemdhjbpekaaaDoorShelf
import Derived.RangeFuncBox
namespace Go.Proofs.YtlpemdhjbpekaaaDoor
open Go.RowKit Go.Shelf
attribute [local go_sem] Oper.semAt_some

/-! ### Sets within a set -/
theorem diff_none {s t : Nat} (hs : W64 s) (ht : W64 t) : diffB s t = 0 ↔ ∀ j, j < 64 → s.testBit j = true → t.testBit j = true := by
  constructor
  · intro h j hj hb
    have := diff_bit s t ht j hj
    rw [h, Nat.zero_testBit, hb, Bool.true_and] at this
    cases hq : t.testBit j with
    | true => rfl
    | false => rw [hq] at this; cases this
  · intro h
    refine same_bits (diff_lt hs) (by decide) fun j hj => ?_
    rw [diff_bit s t ht j hj, Nat.zero_testBit]
    cases hb : s.testBit j with
    | false => rfl
    | true => rw [h j hj hb]; rfl
theorem within_all {s : Nat} (hs : W64 s) : decide (diffB s 255 = 0) = decide (s < 256) := by
  rw [Bool.eq_iff_iff, decide_eq_true_iff, decide_eq_true_iff, diff_none hs (by decide)]
  constructor
  · intro h
    show s < 2 ^ 8
    apply Nat.lt_pow_two_of_testBit
    intro j hj
    rcases Nat.lt_or_ge j 64 with h2 | h2
    · cases hb : s.testBit j with
      | false => rfl
      | true =>
        have := h j h2 hb
        rw [show (255 : Nat) = 2 ^ 8 - 1 by rfl, Nat.testBit_two_pow_sub_one] at this
        have := of_decide_eq_true this
        omega
    · exact bit_small hs h2
  · intro h j _ hb
    rw [show (255 : Nat) = 2 ^ 8 - 1 by rfl, Nat.testBit_two_pow_sub_one]
    rcases Nat.lt_or_ge j 8 with h2 | h2
    · exact decide_eq_true h2
    · rw [Nat.testBit_lt_two_pow (Nat.lt_of_lt_of_le h (Nat.pow_le_pow_right (by decide) h2 : 2 ^ 8 ≤ 2 ^ j))] at hb
      cases hb
theorem word_small {n : Int} (h1 : -9223372036854775808 ≤ n) (h2 : n ≤ 9223372036854775807) : wordR n < 256 ↔ ¬ (n < 0 ∨ 255 < n) := by
  unfold wordR
  omega
theorem kfmt_far (n : Int) (h1 : -9223372036854775808 ≤ n) (h2 : n ≤ 9223372036854775807) (h : n < 0 ∨ 255 < n) (w : World) : Calls Tryd.prog 22 #[.int .i64 n] w fun e w' => e = .returned (.tuple #[.string ⟨#[]⟩, .int .i64 2]) ∧ w = w' := by
  have e1 := wrap_word n
  have M := Lib.hid (fun W => within_any (wordR n) 255 (word_lt n) (by decide) W)
  rw [within_all (word_lt n), decide_eq_false (show ¬ wordR n < 256 by rw [word_small h1 h2]; exact fun k => k h)] at M
  generalize ((wordR n : Nat) : Int) = x at e1 M
  clear h h1 h2
  go_enter Tryd.func22, Tryd.ntmps22
  go_wp2_with fail
  refine (M.out _).mono ?_
  rintro e w' ⟨rfl, rfl⟩
  go_wp2_with fail
  go_ret2
  exact ⟨rfl, rfl⟩
theorem kfmt_none (w : World) : Calls Tryd.prog 22 #[.int .i64 0] w fun e w' => e = .returned (.tuple #[.string (str noneR), .int .i64 0]) ∧ w = w' := by
  have M := Lib.hid (fun W => within_any 0 255 (by decide) (by decide) W)
  rw [within_all (by decide), decide_eq_true (show 0 < 256 by decide)] at M
  go_enter Tryd.func22, Tryd.ntmps22
  go_wp2_with fail
  refine (M.out _).mono ?_
  rintro e w' ⟨rfl, rfl⟩
  go_wp2_with fail
  go_ret2
  exact ⟨rfl, rfl⟩

/-! ### The names joined -/
/-- The names of the modes of a list. -/
def nmsR (l : List Nat) : List (List UInt8) := l.map nmR
theorem nms_len (l : List Nat) : (nmsR l).length = l.length := List.length_map _
theorem nms_snoc (l : List Nat) (x : Nat) : nmsR (l ++ [x]) = nmsR l ++ [nmR x] := by unfold nmsR; rw [List.map_append]; rfl
theorem kjoin_any (n : Nat) (hn : n < 256) (h0 : n ≠ 0) (v : Value) (w : World) (h : Lst w v (nmsR (elems n))) : Calls Tryd.prog 36 #[v, .string ⟨#[43]⟩] w fun e w' => e = .returned (.string (str (textR n))) ∧ Below w.heap.size w w' := by
  have e : Lib.join (nmsR (elems n)) [43] = textR n := elems_text n hn h0
  have hle := elems_len n
  have hx0 : nmsR (elems n) ≠ [] := fun h => by
    have e2 := elems_text n hn h0
    unfold nmsR at h
    rw [h] at e2
    have : textR n ≠ [] := textR_ne n hn
    exact this e2.symm
  generalize hxs : nmsR (elems n) = xs at h e hx0
  have hxl : xs.length ≤ 64 := by rw [← hxs, nms_len]; exact hle
  obtain ⟨A, c, rfl, ⟨hc, -⟩, hcells⟩ := h
  obtain ⟨b, o, rfl, hb, hx⟩ := hcells (List.length_pos_iff.2 hx0)
  have hm : (xs.map str).map (·.data.toList) = xs := by simp [Function.comp_def]
  have hl := textR_le n
  have h := Tryd.strings_Join b o c (xs.map str) (str [43]) w (by
    intro j x hj
    refine hx j _ ?_
    unfold sts
    rw [List.getElem?_map] at hj ⊢
    cases hq : xs[j]? with
    | none => rw [hq] at hj; cases hj
    | some y => rw [hq] at hj; simp at hj; simp [hj]) hb (by rw [List.length_map]; omega) (by rw [List.length_map]; exact hc) (by rw [hm, show (str [43]).data.toList = [43] by rfl, e]; omega)
  rw [hm, List.length_map, show (str [43]).data.toList = [43] by rfl, e] at h
  exact h
/-- Appending one string, as a step of a region that draws its order, in a round. -/
theorem stepIn_one {F : Fence} {n : Nat} (w : World) {ops : Array Oper} {o : Oper} {a : Act} {K : Act → World → Prop} {Q : Exit → Act → World → Prop} {E : Prop} (hgd : o.guard = none) (s x : Operand)
    (ho : o.op = .call { callee := .builtin .append, args := #[s, x], argTypes := #[32, 32] }) (base : Nat) (v : Value) (l : List (List UInt8)) (m : List UInt8) (hs : a.eval s = v) (hown : w.ownsRow base 9 1 v l.length (sts l))
    (k : Nat) (cells : Array Value) (hk : w.heap[k]? = some (.cells cells 9 (0, 0))) (hc : cells = #[.string (str m)]) (hx : a.eval x = .slice (some ⟨k, 0, none⟩) 1 1) (hb : base ≤ w.heap.size)
    (hl : l.length + 1 ≤ 1099511627776) (h : ∀ v' w', w'.ownsRow base 9 1 v' (l.length + 1) (sts l ++ sts [m]) → w.grownBy w' v.ownBlock → K (a.put o.dst v') w') : if Region.wanted o (yielded ops a.tmps) = true then Oper.wpIn F n Tryd.prog o a w K Q else E := by
  obtain ⟨i, hi, hz, hsz, hby⟩ := info_parts info_str
  have hw : Region.wanted o (yielded ops a.tmps) = true := by simp [Region.wanted, hgd]
  rw [if_pos hw]
  obtain ⟨v', w', hrun, r1, r2, -⟩ := run_append_own (P := Tryd.prog) w base 32 o.type 9 i _ 1 16 Tryd.underlying32 hi hz hsz hby rfl (by decide) v l.length (sts l) hown ⟨k, 0, none⟩ 1 1 (sts [m]) (by simp) (fun j u hu => by
    have hadd : (⟨k, 0, none⟩ : Addr).add j = ⟨k, j, none⟩ := by unfold Addr.add; split <;> simp_all
    rw [hadd, cell_of_row w k j cells _ _ hk, ← hu, hc]
    simp) (sts_one [m]) (by unfold maxLen; omega) (by omega) hb
  unfold Oper.wpIn
  refine ⟨?_, ?_⟩
  · simp [Oper.about, ho, resolve, Target.leads, Sem.run_pure]
  · rw [Oper.semAt_plain F _ _ (by rw [ho]; intro c hc'; cases hc')]
    simp [execOp, ho, resolve, invoke, builtin, hs, hx, hrun, Result.andThen]
    exact h v' w' r1 r2
set_option maxRecDepth 100000 in
set_option maxHeartbeats 4000000 in
theorem kfmt_in (n : Nat) (hn : n < 256) (h0 : n ≠ 0) (w : World) (hg : GoodR w) : CallsIn Fence.wide 3 Tryd.prog 22 #[.int .i64 (n : Int)] w fun e W' => e = .returned (.tuple #[.string (str (textR n)), .int .i64 0]) ∧ Below w.heap.size w W' := by
  have hs : W64 n := by unfold W64; omega
  have hlt : 1 < w.heap.size := var_size gTab hg.1
  obtain ⟨i0, hi, hz0, hz1, hz2⟩ := info_parts info_str
  have M := Lib.hid (fun W => within_any n 255 hs (by decide) W)
  rw [within_all hs, decide_eq_true hn] at M
  have e1 : IntKind.u64.wrap (n : Int) = (n : Int) := by rw [IntKind.wrap_u64]; omega
  have e2 : ((n : Int) == 0) = false := beq_false (by omega)
  refine callsIn_of_wp_marks Tryd.func22 rfl trivial ?_ rfl
  simp only [Tryd.ntmps22, List.size_toArray, List.length_cons, List.length_nil, Nat.reduceAdd, Nat.reduceSub, Array.replicate_succ, Array.replicate_zero, List.push_toArray, List.append_toArray, List.nil_append, List.cons_append]
  have HG := Lib.hid hg
  have HS := Lib.hid hs
  have HL := Lib.hid hlt
  clear hg hs hlt
  gi_wp2_with (refine ⟨trivial, ?_⟩; gi_at_call 26; refine (callsIn_wide.2 (M.out _)).mono ?_; rintro e w' ⟨rfl, rfl⟩)
  gi_wp2_with (refine ⟨trivial, ?_⟩; gi_at_call 35; refine (callsIn_wide.2 (all_any n _)).mono ?_; rintro e w' ⟨rfl, rfl⟩)
  have bO := Boxed.new w 32 (.slice none 0 0)
  have bN := Boxed.new (w.alloc (.cells #[.slice none 0 0] 32)) 37 (.int .u64 (n : Int))
  rw [World.size_alloc] at bN
  have hB0 : Below w.heap.size w ((w.alloc (.cells #[.slice none 0 0] 32)).alloc (.cells #[.int .u64 (n : Int)] 37)) := ((Below.refl _ w).alloc (Nat.le_refl _) _).alloc (by simp) _
  refine wpIn_rangeFunc_ownG rfl (show 1 ≤ 3 by decide) (gf := 41) (lb := #[.pointer (some ⟨w.heap.size + 1, 0, none⟩)]) rfl trivial (enters_of Tryd.func41 (by kernel_rfl) rfl)
    (all_stops_of 8 n HS.out (elems_mode n hn) (3 - 1) (w.heap.size + 1) w.heap.size (by decide) _ bN.cell (good_keep HG.out.1 HL.out hB0) HL.out (by simp; omega)) belowK_t (belowK_b (by simp; omega)) (Below.refl _ _) (fun _ => rfl)
    (fun pre W => (∃ v, Boxed W w.heap.size 32 v ∧ W.ownsRow w.heap.size 9 1 v (nmsR (pre.map (·.val))).length (sts (nmsR (pre.map (·.val)))) ∧ True) ∧ Below w.heap.size w W)
    (fun _ _ _ => False)
    (OwnFrom.and (Own.from (holdsRow_own w.heap.size w.heap.size 32 9 1 (fun pre : List (Fin 8) => (nmsR (pre.map (·.val))).length) (fun pre => sts (nmsR (pre.map (·.val)))) (fun _ _ => True)) _) (ownFrom_below (Nat.le_refl _) (by simp; omega)))
    (fun _ _ _ _ _ hs _ _ => hs)
    ⟨⟨_, bO.alloc _, World.ownsRow_nil _ _ _ _, trivial⟩, hB0⟩
    (fun x => { tmps := #[.int .i64 (n : Int), undef, .string ⟨#[]⟩, .int .i64 0, .int .u64 (n : Int), .pointer (some ⟨w.heap.size, 0, none⟩), .int .i64 ((x.val : Nat) : Int), .int .i64 (n : Int), .int .u64 (n : Int), .int .u64 (n : Int), .bool true, .bool false, .int .i64 (n : Int), .bool false, .int .u64 (n : Int), .func (.func 41) #[] #[.pointer (some ⟨w.heap.size + 1, 0, none⟩)], .int .i64 ((x.val : Nat) : Int), undef, undef, undef, undef, undef, undef, undef, undef], defers := [] }) ?assign ?body ?done ?stop
  case assign =>
    intro l x W K hK
    gi_wp2
    exact hK
  case body =>
    rintro l pre x W ⟨⟨v, hv, hrow, -⟩, hB⟩ hlen
    have hv1 : Boxed W.drew w.heap.size 32 v := hv
    have hr1 : W.drew.ownsRow w.heap.size 9 1 v (nmsR (pre.map (·.val))).length (sts (nmsR (pre.map (·.val)))) := hrow
    have hB1 : Below w.heap.size w W.drew := hB.drew
    have hk1 : KeepsOthers W W.drew := KeepsOthers.drew W
    have hb1 : Below w.heap.size W W.drew := (Below.refl _ _).drew
    have cn := (HG.out.below hB1).name x.val x.isLt
    have ix := fun W => nix_run 0 x.val x.isLt W
    have hc1 := hv1.cell
    clear hv hrow
    gi_wp2
    refine wpIn_region_any (by kernel_rfl) ?_
    change wpAnyIn _ _ _ _ _ _ _ _ _ (World.drew _)
    generalize W.drew = W1 at *
    have hcA := fun o => (hv1.alloc o).cell
    have nl : (nmsR (pre.map (·.val))).length ≤ 64 := by rw [nms_len, List.length_map]; omega
    have NS := Lib.hid (nms_snoc (pre.map (·.val)) x.val)
    repeat' (first
      | exact AllReadyIn.nil
      | refine AllReadyIn.cons rfl (fun K hK => ?_) ?_
      | refine wpAnyIn_ready (rs := [0, 1]) (by decide +kernel) (by simp) ?_
      | refine wpAnyIn_ready (rs := [0, 2]) (by decide +kernel) (by simp) ?_
      | refine wpAnyIn_ready (rs := [0, 3]) (by decide +kernel) (by simp) ?_
      | refine wpAnyIn_ready (rs := [0, 4]) (by decide +kernel) (by simp) ?_
      | refine wpAnyIn_ready (rs := [0]) (by decide +kernel) (by simp) ?_
      | refine wpAnyIn_ready (rs := [1]) (by decide +kernel) (by simp) ?_
      | refine wpAnyIn_ready (rs := [2]) (by decide +kernel) (by simp) ?_
      | refine wpAnyIn_ready (rs := [3]) (by decide +kernel) (by simp) ?_
      | refine wpAnyIn_ready (rs := [4]) (by decide +kernel) (by simp) ?_
      | refine wpAnyIn_ready (rs := [5]) (by decide +kernel) (by simp) ?_
      | refine wpAnyIn_ready (rs := [6]) (by decide +kernel) (by simp) ?_
      | refine wpAnyIn_done (by decide +kernel) ?_ _
      | (refine stepIn_one _ (by rfl) (.tmp 17) (.tmp 21) (by rfl) w.heap.size v (nmsR (pre.map (·.val))) (nmR x.val) (by rfl) (hr1.alloc _) W1.heap.size _ (heap_alloc_new _ _) (by rfl) (by rfl) (by have := hB1.size; simp; omega) (by omega) ?_
         intro v' w1 hown' hgrow
         obtain ⟨g', cap', rfl⟩ := ownsRow_succ hown'
         obtain ⟨q1, q2, r2, k2, b2⟩ := hv1.appended (by decide) hr1 hB1.size (Nat.le_refl _) hown' hgrow
         have hcc1 := q1.cell
         have hcf1 := q1.frozen
         clear q1 hown' hgrow
         refine hK _ _ ?_
         clear hK K)
      | (go_simp; refine hK _ _ ?_; clear hK K))
    all_goals
      have R : (w1.setCell ⟨w.heap.size, 0, none⟩ (.slice (some ⟨g', 0, none⟩) ((nmsR (pre.map (·.val))).length + 1) cap')).ownsRow w.heap.size 9 1 (.slice (some ⟨g', 0, none⟩) ((nmsR (pre.map (·.val))).length + 1) cap') (nmsR ((pre ++ [x]).map (·.val))).length (sts (nmsR ((pre ++ [x]).map (·.val)))) := by
        have e1 : nmsR ((pre ++ [x]).map (·.val)) = nmsR (pre.map (·.val)) ++ [nmR x.val] := by rw [List.map_append]; exact NS.out
        rw [e1, List.length_append]
        unfold sts at r2 ⊢
        rw [List.map_append]
        exact r2
      exact ⟨(hk1.trans k2).from _, hb1.trans b2, ⟨_, q2, R, trivial⟩, hB1.trans b2⟩
  case done =>
    rintro D ys W hD hys ⟨⟨v, hv, hrow, -⟩, hB⟩ hK
    have hc := hv.cell
    have hl : Lst W v (nmsR (elems n)) := by
      rw [hys] at hrow
      exact OwnS.lst hrow
    have J := Lib.hid (kjoin_any n hn h0 v W hl)
    have HB := Lib.hid hB
    have HK := Lib.hid hK
    clear hrow hB hl
    gi_wp2_with (refine ⟨trivial, ?_⟩; gi_at_call 36; refine (callsIn_wide.2 J.out).mono ?_; rintro e w5 ⟨rfl, b5⟩)
    have hDl : D < W.heap.size := by have := (Array.getElem?_eq_some_iff.1 HK.out).1; exact this
    have hK5 : w5.heap[D]? = some (.deferred (some [])) := (b5.block D hDl).trans HK.out
    refine ⟨by simp, .inl ⟨_, _, rfl, run_takeDeferred hK5, ?_⟩⟩
    exact ⟨_, results_tmp2 rfl _ _ _, rfl, (HB.out.trans (b5.mono HB.out.size)).trans (belowK_b (w := w) (Nat.le_refl _) w5 D _ _ (by simp at hD; omega) hK5 rfl rfl)⟩
  case stop =>
    rintro D c pre W _ _ h _
    exact h.elim
theorem kfmt_any (n : Int) (h1 : -9223372036854775808 ≤ n) (h2 : n ≤ 9223372036854775807) (w : World) (hg : GoodR w) : Calls Tryd.prog 22 #[.int .i64 n] w fun e w' => e = .returned (.tuple #[.string (str (fmtR n).1), .int .i64 ((fmtR n).2)]) ∧ Below w.heap.size w w' := by
  by_cases h : n < 0 ∨ 255 < n
  · rw [fmtR_far h]
    refine (kfmt_far n h1 h2 h w).mono ?_
    rintro e w' ⟨rfl, rfl⟩
    exact ⟨rfl, Below.refl _ _⟩
  · obtain ⟨m, rfl⟩ := Int.eq_ofNat_of_zero_le (show 0 ≤ n by omega)
    rw [fmtR_in (by omega)]
    by_cases h0 : m = 0
    · subst h0
      refine (kfmt_none w).mono ?_
      rintro e w' ⟨rfl, rfl⟩
      exact ⟨rfl, Below.refl _ _⟩
    · exact callsIn_wide.1 (kfmt_in m (by omega) h0 w hg)
end Go.Proofs.YtlpemdhjbpekaaaDoor
