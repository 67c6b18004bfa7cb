/-
  Starts of package frequency: the list of the starts that the iterator hands over; nothing that existed before the call has changed behind it. Condition: none beyond each theorem's own hypotheses.
-/
import Derived.Test.YtahnaidkobodaaaHzI
import Derived.Test.YtahnaidkobodaaaSrtI
namespace Go.Proofs.Ytahnaidkobodaaa
open Go.RowKit Go.Shelf
attribute [local go_sem] Oper.semAt_some

theorem starts_stops (t a b v : Int) (n bk : Nat) (hn : 1 ≤ n) (w0 : World) (hc : w0.heap[bk]? = some (boxF t a b v)) :
    SeqStopsK Fence.wide n Try.prog 40 #[.pointer (some ⟨bk, 0, none⟩)] (fun x : Int => #[.int .i64 x]) (fun A B => B.heap[bk]? = A.heap[bk]?) (fun xs => xs = stsF (t, a, b, v)) (fun pre => pre <+: stsF (t, a, b, v)) 172800 w0 := fun l J Jx W hW hJ _ hY h0 =>
  starts_core t a b v n bk hn l J Jx W hJ ((hW.block bk (Array.getElem?_eq_some_iff.1 hc).1).trans hc) (fun pre x W1 h1 h2 => hY pre x W1 h1 h2) h0
theorem boxK_t {bk : Nat} {A B C : World} (h : B.heap[bk]? = A.heap[bk]?) (k : C.heap[bk]? = B.heap[bk]?) : C.heap[bk]? = A.heap[bk]? := k.trans h
theorem boxK_b {bk : Nat} {w : World} (hb : bk < w.heap.size) (W : World) (l : Nat) (o o' : Obj) (hl : w.heap.size ≤ l) (h : W.heap[l]? = some o) (_ : o.isCells = false) (_ : o.isWalk = false) : (W.putObj l o').heap[bk]? = W.heap[bk]? :=
  (grownBy_putObj' W l o').block bk (by have := (Array.getElem?_eq_some_iff.1 h).1; omega) (by simp; omega)
/-- A frequency's box is no walk's object. -/
theorem boxF_own {β : Type} (B bk : Nat) (t a b v : Int) : OwnFrom B (fun (_ : β) (W : World) => W.heap[bk]? = some (boxF t a b v)) := by
  intro s W W' row hs hg hr
  refine (hg.block bk (Array.getElem?_eq_some_iff.1 hs).1 ?_).trans hs
  intro e
  obtain ⟨o, ho, hc⟩ := (hr bk e.symm).2
  rw [hs] at ho
  cases ho
  cases hc
/-- A block of another type is not the row's. -/
theorem other_row {W : World} {bk : Nat} {cs : Array Value} {T e : TypeId} {fr : Nat × Nat} (h : W.heap[bk]? = some (.cells cs T fr)) (hte : T ≠ e) {base size k : Nat} {v : Value} {xs : List Value} (hr : W.ownsRow base e size v k xs) : some bk ≠ v.ownBlock := by
  intro e'
  rcases hr.2 with ⟨rfl, _⟩ | ⟨g, cap, cur, rfl, _, hg, _⟩
  · simp [Value.ownBlock] at e'
  · obtain rfl : bk = g := by simpa [Value.ownBlock] using e'
    rw [h] at hg
    cases hg
    exact hte rfl
theorem box_kept {W w1 : World} {n₀ bk M k : Nat} {t a b v : Int} {u u' : Value} {tmp : Obj} {xs : List Value} (hb : W.heap[bk]? = some (boxF t a b v)) (hrow : W.ownsRow n₀ 3 1 u k xs) (hg : (W.alloc tmp).grownBy w1 u.ownBlock) (hne : bk ≠ M) : (w1.setCell ⟨M, 0, none⟩ u').heap[bk]? = W.heap[bk]? := by
  have hlt := (Array.getElem?_eq_some_iff.1 hb).1
  rw [Below.heap_setCell _ _ _ bk hne]
  exact (hg.block bk (by simp; omega) (other_row hb (by decide) hrow)).trans (Go.heap_alloc_old _ _ hlt)
set_option maxRecDepth 100000 in
set_option maxHeartbeats 4000000 in
theorem kstarts_in (t a b v : Int) (w : World) : CallsIn Fence.wide 3 Try.prog 15 #[fqV t a b v] w fun e W' => ∃ u, e = .returned u ∧ OwnI W' w.heap.size u (stsF (t, a, b, v)) ∧ Below w.heap.size w W' := by
  obtain ⟨i0, hi, hz0, hz1, hz2⟩ := info_parts info_int
  refine callsIn_of_wp_marks Try.func15 rfl trivial ?_ rfl
  simp only [Try.ntmps15, List.size_toArray, List.length_cons, List.length_nil, Nat.reduceAdd, Nat.reduceSub, Array.replicate_succ, Array.replicate_zero, List.push_toArray, List.append_toArray, List.nil_append, List.cons_append]
  obtain ⟨w7, hw7⟩ : ∃ W, w.alloc (boxF t a b v) = W := ⟨_, rfl⟩
  obtain ⟨b7, p0, p1, p2, p3, s7, c7⟩ := box_fq hw7
  obtain ⟨w8, hw8⟩ : ∃ W, w7.alloc (.cells #[.slice none 0 0] 32 (0, 0)) = W := ⟨_, rfl⟩
  have b8 : Below w7.heap.size w7 w8 := by rw [← hw8]; exact (Below.refl _ _).alloc (Nat.le_refl _) _
  have x8 : Boxed w8 w7.heap.size 32 (.slice none 0 0) := by rw [← hw8]; exact Boxed.new _ _ _
  obtain ⟨q0, q1, q2, q3⟩ := row_fq ((b8.block _ s7).trans c7)
  have B8 : Hid (Below w.heap.size w w8) := b7.trans (b8.mono b7.size)
  have z8 : w.heap.size < w8.heap.size := Nat.lt_of_lt_of_le s7 b8.size
  have z7 : w7.heap.size < w8.heap.size := x8.lt
  have Z7 : w.heap.size ≤ w7.heap.size := b7.size
  obtain ⟨w9, hw9⟩ : ∃ W, w8.alloc (boxF t a b v) = W := ⟨_, rfl⟩
  obtain ⟨b9, -, -, -, -, s9, c9⟩ := box_fq hw9
  have x9 : Boxed w9 w7.heap.size 32 (.slice none 0 0) := (b9.block _ z7).trans x8
  have B9 : Below w.heap.size w w9 := B8.out.trans (b9.mono B8.out.size)
  clear b7 b8 c7 s7 p0 p1 p2 p3 b9
  gi_wp2_with (refine ⟨trivial, ?_⟩; gi_at_call 28; refine (callsIn_wide.2 (starts_of t a b v _)).mono ?_; rintro e w' ⟨rfl, rfl⟩)
  clear hw9 hw8 hw7
  refine wpIn_rangeFunc_ownG rfl (show 1 ≤ 3 by decide) (gf := 40) (lb := #[.pointer (some ⟨w8.heap.size, 0, none⟩)]) rfl trivial (enters_of Try.func40 (by kernel_rfl) rfl)
    (starts_stops t a b v (3 - 1) w8.heap.size (by decide) w9 c9) boxK_t (boxK_b s9) (Below.refl _ _) (fun _ => rfl)
    (fun pre W => (∃ u, Boxed W w7.heap.size 32 u ∧ W.ownsRow w.heap.size 3 1 u pre.length (ints pre) ∧ True) ∧ Below w.heap.size w W ∧ W.heap[w8.heap.size]? = some (boxF t a b v))
    (fun _ _ _ => False)
    (OwnFrom.and (Own.from (holdsRow_own w.heap.size w7.heap.size 32 3 1 (fun pre => pre.length) (fun pre => ints pre) (fun _ _ => True)) _) (OwnFrom.and (ownFrom_below (Nat.le_refl _) (by omega)) (boxF_own _ _ t a b v)))
    (fun _ _ _ _ _ hs _ _ => hs)
    ⟨⟨_, x9, World.ownsRow_nil _ _ _ _, trivial⟩, B9, c9⟩
    (fun x => { tmps := #[fqV t a b v, .pointer (some ⟨w.heap.size, 0, none⟩), .slice none 0 0, .pointer (some ⟨w7.heap.size, 0, none⟩), .int .i64 x, fqV t a b v, .func (.func 40) #[] #[.pointer (some ⟨w8.heap.size, 0, none⟩)], .int .i64 x, undef, undef, undef, undef, undef], defers := [] }) ?assign ?body ?done ?stop
  case assign =>
    intro l x W K hK
    gi_wp2
    exact hK
  case body =>
    rintro l pre x W ⟨⟨u, hv, hrow, -⟩, hB, hX⟩ hlt
    have hc := hv.cell
    gi_wp2_with (gi_at_builtin; refine wpListIn_append_own _ rfl _ _ 32 rfl w.heap.size 3 i0 (.int .i64 0) 1 8 Try.underlying32 hi hz0 hz1 hz2 rfl (by decide) _ _ _ rfl (hrow.alloc _) ⟨W.heap.size, 0, none⟩ 1 1 [.int .i64 x] rfl rfl (cell_one_new _ _ _) (by simp [Value.oneCell']) (by unfold maxLen; omega) (by omega) (by have := hB.size; simp; omega) ?_; intro v' w1 hown' hgrow _; obtain ⟨g', cap', rfl⟩ := ownsRow_succ hown'; obtain ⟨hv1, hv2, hr2, hk2, hb2⟩ := hv.appended (by decide) hrow hB.size Z7 hown' hgrow; have hkp := box_kept (u' := .slice (some ⟨g', 0, none⟩) (pre.length + 1) cap') hX hrow hgrow (show w8.heap.size ≠ w7.heap.size by omega); have hc1 := hv1.cell; have hf1 := hv1.frozen)
    exact ⟨hk2.from _, hkp, ⟨_, hv2, by simpa using hr2, trivial⟩, hB.trans hb2, hkp.trans hX⟩
  case done =>
    rintro D ys W hD rfl ⟨⟨u, hv, hrow, -⟩, hB, hX⟩ hK
    have hc := hv.cell
    gi_wp2
    refine ⟨by simp, .inl ⟨_, _, rfl, run_takeDeferred hK, ?_⟩⟩
    exact ⟨_, results_tmp rfl _ _ _, u, rfl, ownsRow_putObj hrow _ hK rfl, hB.trans (belowK_b (w := w) (Nat.le_refl _) W D _ _ (by omega) hK rfl rfl)⟩
  case stop =>
    rintro D c pre W _ _ h _
    exact h.elim
theorem kstarts_any (t a b v : Int) (w : World) : Calls Try.prog 15 #[fqV t a b v] w fun e W' => ∃ u, e = .returned u ∧ OwnI W' w.heap.size u (stsF (t, a, b, v)) ∧ Below w.heap.size w W' := callsIn_wide.1 (kstarts_in t a b v w)
end Go.Proofs.Ytahnaidkobodaaa
