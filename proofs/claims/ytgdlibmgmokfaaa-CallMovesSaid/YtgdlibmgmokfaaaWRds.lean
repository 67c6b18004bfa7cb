/-
  The laws' own loop over the rides: as many of the first ones as are wanted. Condition: lists of at most 60 calls.
-/
import Derived.Test.YtgdlibmgmokfaaaWItr
namespace Go.Proofs.Ytgdlibmgmokfaaa
open Go.RowKit Go.Shelf
attribute [local go_sem] Oper.semAt_some

theorem run_equalIn_fn (d : Nat) (t : TypeId) (fn : Fn) (a b : Array Value) {x y : Array TypeId} {z : Bool} (h : Try.prog.underlying t = some (.func x y z)) (w : World) : (Op.equalIn (d + 1) t (.func fn a b) .nilFunc).run Try.prog w = .ok false w := by
  simp [Op.equalIn, run_underlying h]
theorem run_equal_fn (t : TypeId) (fn : Fn) (a b : Array Value) {x y : Array TypeId} {z : Bool} (h : Try.prog.underlying t = some (.func x y z)) (w : World) : (Op.equal t (.func fn a b) .nilFunc).run Try.prog w = .ok false w := run_equalIn_fn 9999 t fn a b h w
theorem fn_not_nil (t : TypeId) (fn : Fn) (a b : Array Value) {x y : Array TypeId} {z : Bool} (h : Try.prog.underlying t = some (.func x y z)) (w : World) : (binOp BinOp.eql t (.func fn a b) .nilFunc).run Try.prog w = .ok (.bool false) w := by
  simp only [binOp]
  simp [run_equal_fn t fn a b h w]
theorem cell_two_new (w : World) (x y : Value) (t : TypeId) : ∀ j u, [x, y][j]? = some u → (w.alloc (.cells #[x, y] t)).cell? ((⟨w.heap.size, 0, none⟩ : Addr).add j) = some u := by
  intro j u hj
  match j, hj with
  | 0, hj =>
    simp at hj
    subst hj
    simp [Addr.add]
  | 1, hj =>
    simp at hj
    subst hj
    simp [Addr.add]
/-- How the loop is left when enough have come. -/
def RdStop (w1 : World) (most : Nat) (c : Code) (pre : List Pr) (W : World) : Prop :=
  c = .exit 0 ∧ (∃ u, Boxed W w1.heap.size 36 u ∧ W.ownsRow w1.heap.size 40 2 u pre.dropLast.length (fl pe pre.dropLast) ∧ pre.dropLast.length = most) ∧ Below w1.heap.size w1 W
theorem rdStop_own (w1 : World) (most : Nat) (B : Nat) (hB : w1.heap.size ≤ B) (c : Code) : OwnFrom B (RdStop w1 most c) :=
  OwnFrom.and (ownFrom_pure _ fun _ => c = .exit 0) (OwnFrom.and (Own.from (holdsRow_own w1.heap.size w1.heap.size 36 40 2 (fun pre : List Pr => pre.dropLast.length) (fun pre => fl pe pre.dropLast) (fun pre _ => pre.dropLast.length = most)) _) (ownFrom_below (Nat.le_refl _) hB))
theorem rdStop_at {w1 : World} {most : Nat} {pre : List Pr} {x : Pr} {W : World} {u : Value} (hv : Boxed W w1.heap.size 36 u) (hrow : W.ownsRow w1.heap.size 40 2 u pre.length (fl pe pre)) (hp : pre.length = most) (hB : Below w1.heap.size w1 W) : RdStop w1 most (.exit 0) (pre ++ [x]) W := by
  unfold RdStop
  rw [List.dropLast_concat]
  exact ⟨rfl, ⟨_, hv, hrow, hp⟩, hB⟩
set_option maxRecDepth 100000 in
set_option maxHeartbeats 4000000 in
theorem rides_in (v : Value) (cs : List Cl) (hl : cs.length ≤ 60) (most : Nat) (w : World) (h : LstC w v cs) : CallsIn Fence.wide 3 Try.prog 19 #[v, .int .i64 (most : Int)] w fun e W' => ∃ u, e = .returned (.tuple #[u, .bool true]) ∧ OwnP W' w.heap.size u ((prsC cs).take most) ∧ Below w.heap.size w W' := by
  obtain ⟨i0, hi, hz0, hz1, hz2⟩ := info_parts info_pr
  refine callsIn_of_wp_marks Try.func19 rfl trivial ?_ rfl
  simp only [Try.ntmps19, List.size_toArray, List.length_cons, List.length_nil, Nat.reduceAdd, Nat.reduceSub, Array.replicate_succ, Array.replicate_zero, List.push_toArray, List.append_toArray, List.nil_append, List.cons_append]
  have FN := fun cap W => fn_not_nil 52 (.func 32) #[] cap Try.underlying52 W
  have bM := Boxed.new w 3 (.int .i64 (most : Int))
  obtain ⟨w0, hw0⟩ : ∃ W, w.alloc (.cells #[.int .i64 (most : Int)] 3) = W := ⟨_, rfl⟩
  rw [hw0] at bM
  have b0 : Below w.heap.size w w0 := by rw [← hw0]; exact (Below.refl _ _).alloc (Nat.le_refl _) _
  have C := Lib.hid (krides_any v cs hl w0 (h.below b0))
  have BM := Lib.hid bM
  have B0 := Lib.hid b0
  clear h bM b0
  gi_wp2
  refine ⟨trivial, (callsIn_wide.2 C.out).mono ?_⟩
  rintro e w1 ⟨b, v1, rfl, hc, hv, b1⟩
  have bO := Boxed.new w1 36 (.slice none 0 0)
  have z1 := b1.size
  have z0 := BM.out.lt
  have cM := (b1.cell (p := ⟨w.heap.size, 0, none⟩) z0).trans BM.out.cell
  have hB0 : Below w1.heap.size w1 (w1.alloc (.cells #[.slice none 0 0] 36)) := (Below.refl _ w1).alloc (Nat.le_refl _) _
  have ST := Lib.hid (rides_stops cs hl (3 - 1) b (by decide) v1 w1 _ hc hv hB0)
  have B1 := Lib.hid (B0.out.trans (b1.mono B0.out.size))
  clear hc hv b1 C hw0
  gi_wp2
  refine wpIn_rangeFunc_ownG rfl (show 1 ≤ 3 by decide) (gf := 32) (lb := #[.pointer (some ⟨b, 0, none⟩)]) rfl trivial (enters_of Try.func32 (by kernel_rfl) rfl)
    ST.out belowK_t (belowK_b (by simp)) (Below.refl _ _) (fun _ => rfl)
    (fun pre W => (∃ u, Boxed W w1.heap.size 36 u ∧ W.ownsRow w1.heap.size 40 2 u pre.length (fl pe pre) ∧ pre.length ≤ most) ∧ Below w1.heap.size w1 W)
    (RdStop w1 most)
    (OwnFrom.and (Own.from (holdsRow_own w1.heap.size w1.heap.size 36 40 2 (fun pre : List Pr => pre.length) (fun pre => fl pe pre) (fun pre _ => pre.length ≤ most)) _) (ownFrom_below (Nat.le_refl _) (by simp)))
    (fun c => rdStop_own w1 most _ (by simp) c)
    ⟨⟨_, bO, World.ownsRow_nil _ _ _ _, Nat.zero_le _⟩, hB0⟩
    (fun x => { tmps := #[v, .int .i64 (most : Int), undef, .pointer (some ⟨w.heap.size, 0, none⟩), .slice none 0 0, .bool false, .func (.func 32) #[] #[.pointer (some ⟨b, 0, none⟩)], .pointer (some ⟨w1.heap.size, 0, none⟩), .int .i64 (x.1 : Int), .int .i64 (x.2 : Int), v, .func (.func 32) #[] #[.pointer (some ⟨b, 0, none⟩)], .func (.func 32) #[] #[.pointer (some ⟨b, 0, none⟩)], .bool false, .func (.func 32) #[] #[.pointer (some ⟨b, 0, none⟩)], .int .i64 (x.1 : Int), .int .i64 (x.2 : Int), undef, undef, undef, undef, undef, undef, undef, undef, undef, undef, undef], defers := [] }) ?assign ?body ?done ?stop
  case assign =>
    intro l x W K hK
    gi_wp2
    exact hK
  case body =>
    rintro l pre x W ⟨⟨u, hv, hrow, hle⟩, hB⟩ hlt
    have hc := hv.cell
    have hm := (hB.cell (p := ⟨w.heap.size, 0, none⟩) (show w.heap.size < w1.heap.size by omega)).trans cM
    obtain ⟨A, c, rfl, -, -, -⟩ := ownK_shape hrow
    by_cases hful : most ≤ pre.length
    · have g : (most : Int) ≤ (pre.length : Int) := by omega
      have R := Lib.hid (rdStop_at (most := most) (x := x) hv hrow (by omega) hB)
      clear hv hrow hB hful
      gi_wp2
      exact ⟨KeepsFrom.refl _ _, R.out⟩
    · have g : decide ((most : Int) ≤ (pre.length : Int)) = false := by rw [decide_eq_false_iff_not]; omega
      have HP : pre.length < 3600 := hlt
      gi_wp2_with (gi_at_builtin; refine wpListIn_append_own _ rfl _ _ 36 rfl w1.heap.size 40 i0 (.agg #[.int .i64 0, .int .i64 0]) 2 16 Try.underlying36 hi hz0 hz1 hz2 rfl (by decide) _ _ _ rfl (hrow.alloc _) ⟨W.heap.size, 0, none⟩ 1 1 [.int .i64 (x.1 : Int), .int .i64 (x.2 : Int)] rfl rfl (cell_two_new _ _ _ _) (by simp [Value.oneCell']) (by unfold maxLen; omega) (by omega) (by have := hB.size; simp; omega) ?_; intro v' w3 hown' hgrow _; obtain ⟨g', cap', rfl⟩ := ownsRow_succ hown'; obtain ⟨hv1, hv2, hr2, hk2, hb2⟩ := hv.appended (by decide) hrow hB.size (Nat.le_refl _) hown' hgrow; have hc1 := hv1.cell; have hf1 := hv1.frozen)
      refine ⟨hk2.from _, hb2, ⟨_, hv2, ?_, ?_⟩, hB.trans hb2⟩
      · rw [List.length_append, fl_app, fl_one]
        exact hr2
      · rw [List.length_append]
        show _ + 1 ≤ _
        omega
  case done =>
    rintro D ys W hD rfl ⟨⟨u, hv, hrow, hle⟩, hB⟩ hK
    have hc := hv.cell
    gi_wp2
    refine ⟨by simp, .inl ⟨_, _, rfl, run_takeDeferred hK, ?_⟩⟩
    have hrow' : W.ownsRow w1.heap.size 40 2 u ((prsC cs).take most).length (fl pe ((prsC cs).take most)) := by rw [List.take_of_length_le hle]; exact hrow
    exact ⟨_, results_tmp2 rfl _ _ _, u, rfl, OwnG.down (ownsRow_putObj hrow' _ hK rfl) (by omega), B1.out.trans ((hB.trans (belowK_b (w := w1) (Nat.le_refl _) W D _ _ (by simp at hD; omega) hK rfl rfl)).mono (by omega))⟩
  case stop =>
    rintro D c pre W hD hpre hst hK
    obtain ⟨rfl, ⟨u, hv, hrow, hle⟩, hB⟩ := hst
    have hc := hv.cell
    gi_wp2
    refine ⟨by simp, .inl ⟨_, _, rfl, run_takeDeferred hK, ?_⟩⟩
    have he := prs_take ((List.dropLast_prefix pre).trans hpre) hle
    rw [he] at hrow
    exact ⟨_, results_tmp2 rfl _ _ _, u, rfl, OwnG.down (ownsRow_putObj hrow _ hK rfl) (by omega), B1.out.trans ((hB.trans (belowK_b (w := w1) (Nat.le_refl _) W D _ _ (by simp at hD; omega) hK rfl rfl)).mono (by omega))⟩
/-- The first rides, as many as are wanted. -/
theorem rides_any (v : Value) (cs : List Cl) (hl : cs.length ≤ 60) (most : Nat) (w : World) (h : LstC w v cs) : Calls Try.prog 19 #[v, .int .i64 (most : Int)] w fun e W' => ∃ u, e = .returned (.tuple #[u, .bool true]) ∧ OwnP W' w.heap.size u ((prsC cs).take most) ∧ Below w.heap.size w W' :=
  callsIn_wide.1 (rides_in v cs hl most w h)
end Go.Proofs.Ytgdlibmgmokfaaa
