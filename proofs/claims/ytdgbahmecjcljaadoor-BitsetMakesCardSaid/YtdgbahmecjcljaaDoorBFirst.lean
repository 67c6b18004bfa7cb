/-
  The law's own consumer of the iterator: the elements that it has received when it says that it has enough. Condition: words below 2^64; at least one element is wanted.
-/
import Derived.Test.YtdgbahmecjcljaaDoorBColl
import Derived.Test.YtdgbahmecjcljaaDoorBox
namespace Go.Proofs.YtdgbahmecjcljaaDoor
open Go.RowKit

/-- What the consumer's variables hold when these elements have come. B: the first of its blocks. -/
def FSt (w0 : World) (n : Int) (pre : List Nat) (over : Bool) (W : World) : Prop :=
  ∃ v, Boxed W w0.heap.size 3 (.int .i64 n) ∧ Boxed W (w0.heap.size + 1) 22 v ∧ OwnI W (w0.heap.size + 5) v (intN pre) ∧ Boxed W (w0.heap.size + 3) 4 (.bool over) ∧ Boxed W (w0.heap.size + 4) 4 (.bool false) ∧ Below w0.heap.size w0 W ∧ w0.heap.size + 5 ≤ W.heap.size
theorem intN_snoc (l : List Nat) (x : Nat) : intN (l ++ [x]) = intN l ++ [(x : Int)] := by unfold intN; rw [List.map_append]; rfl
set_option maxHeartbeats 4000000 in
theorem yield_any (w0 : World) (n : Int) (pre : List Nat) (x : Nat) (hp : pre.length < 64) (W : World) (h : FSt w0 n pre false W) (more : Bool) (hm : decide (n ≤ (pre.length : Int) + 1) = !more) :
    Calls Tryd.prog 41 #[.int .i64 (x : Int), .pointer (some ⟨w0.heap.size + 3, 0, none⟩), .pointer (some ⟨w0.heap.size + 4, 0, none⟩), .pointer (some ⟨w0.heap.size + 1, 0, none⟩), .pointer (some ⟨w0.heap.size, 0, none⟩)] W
      fun e W' => e = .returned (.bool more) ∧ FSt w0 n (pre ++ [x]) (!more) W' ∧ Below w0.heap.size W W' := by
  obtain ⟨v, x0, x1, own, x3, x4, hb, hz⟩ := h
  have c1 := x1.cell
  have c3 := x3.cell
  have X0 := Lib.hid x0
  have X1 := Lib.hid x1
  have X3 := Lib.hid x3
  have X4 := Lib.hid x4
  have HB := Lib.hid hb
  have HO := Lib.hid own
  have HS := Lib.hid (intN_snoc pre x)
  have HL := Lib.hid (intN_len pre)
  clear x0 x1 x3 x4 hb own
  go_enter Tryd.func41, Tryd.ntmps41
  go_wp2_with (at_builtin; refine app_int _ rfl (.tmp 8) (.tmp 10) rfl (w0.heap.size + 5) _ (intN pre) (x : Int) rfl (OwnI.alloc HO.out _) W.heap.size _ (heap_alloc_new _ _) rfl rfl (by simp; omega) (by rw [HL.out]; omega) ?_; intro v1 w1 own1 b1; obtain ⟨A2, d2, rfl⟩ := own_shape' own1; have q0 := (Boxed.low (X0.out.alloc _) b1 (by omega)).cell; have q1 := (Boxed.low (X1.out.alloc _) b1 (by omega)).cell; have q2 := (Boxed.low (X1.out.alloc _) b1 (by omega)).frozen; have q3 := (Boxed.low (X3.out.alloc _) b1 (by omega)).cell; have q4 := (Boxed.low (X3.out.alloc _) b1 (by omega)).frozen; clear c1 c3)
  have E := Lib.hid (show decide (n ≤ ((intN pre).length : Int) + 1) = !more by rw [HL.out]; exact hm)
  go_ret
  rw [E.out, Bool.not_not]
  refine ⟨rfl, ⟨_, ((Boxed.low (X0.out.alloc _) b1 (by omega)).other (by omega) _).other (by omega) _, ((Boxed.low (X1.out.alloc _) b1 (by omega)).set _).other (by omega) _, ?_, ((Boxed.low (X3.out.alloc _) b1 (by omega)).other (by omega) _).set _, ((Boxed.low (X4.out.alloc _) b1 (by omega)).other (by omega) _).other (by omega) _, ?_, ?_⟩, ?_⟩
  · rw [HS.out]
    rw [List.length_append] at own1
    refine own_keep own1 fun k hk _ => ?_
    rw [Below.heap_setCell _ _ _ k (by show _ ≠ _; simp; omega), Below.heap_setCell _ _ _ k (by show _ ≠ _; simp; omega)]
  · exact ((HB.out.trans ((Below.refl _ W).alloc HB.out.size _)).trans (b1.mono (by omega))).setCell (by simp) _ |>.setCell (by simp) _
  · have := b1.size
    simp at this ⊢
    omega
  · exact (((Below.refl _ W).alloc HB.out.size _).trans (b1.mono (by omega))).setCell (by simp) _ |>.setCell (by simp) _
theorem run_equalIn_fn (d : Nat) (t : TypeId) (fn : Fn) (a b : Array Value) {x y : Array TypeId} {z : Bool} (h : Tryd.prog.underlying t = some (.func x y z)) (w : World) : (Op.equalIn (d + 1) t (.func fn a b) .nilFunc).run Tryd.prog w = .ok false w := by
  simp [Op.equalIn, run_underlying h]
theorem run_equal_fn (t : TypeId) (fn : Fn) (a b : Array Value) {x y : Array TypeId} {z : Bool} (h : Tryd.prog.underlying t = some (.func x y z)) (w : World) : (Op.equal t (.func fn a b) .nilFunc).run Tryd.prog w = .ok false w := run_equalIn_fn 9999 t fn a b h w
theorem fn_not_nil (t : TypeId) (fn : Fn) (a b : Array Value) {x y : Array TypeId} {z : Bool} (h : Tryd.prog.underlying t = some (.func x y z)) (w : World) : (binOp BinOp.eql t (.func fn a b) .nilFunc).run Tryd.prog w = .ok (.bool false) w := by
  simp only [binOp]
  simp [run_equal_fn t fn a b h w]
theorem take_pre {l p : List Nat} {n : Int} (h : p <+: l) (hn : (p.length : Int) = n) : p = l.take n.toNat := by
  obtain ⟨q, rfl⟩ := h
  rw [← hn, Int.toNat_natCast, List.take_left']
  rfl
set_option maxHeartbeats 4000000 in
theorem first_any (s : Nat) (hs : W64 s) (n : Int) (hn : 1 ≤ n) (w : World) (hg : Good w) : Calls Tryd.prog 34 #[.int .u64 (s : Int), .int .i64 n] w fun e w' => ∃ v, e = .returned v ∧ LstI w' v (intN ((elems s).take n.toNat)) ∧ Below w.heap.size w w' := by
  have HG := Lib.hid hg
  have HL := Lib.hid (var_size gTab hg)
  have HS := Lib.hid hs
  clear hg hs
  go_enter Tryd.func34, Tryd.ntmps34
  have FN := fun cap W => fn_not_nil 52 (.func 42) #[] cap Tryd.underlying52 W
  go_wp2_with (go_at_call 40; refine (all_any s _).mono ?_; rintro e w' ⟨rfl, rfl⟩)
  have hB : Below w.heap.size w (((((w.alloc (.cells #[.int .i64 n] 3)).alloc (.cells #[.slice none 0 0] 22)).alloc (.cells #[.int .u64 (s : Int)] 25)).alloc (.cells #[.bool false] 4)).alloc (.cells #[.bool false] 4)) :=
    (((((Below.refl _ w).alloc (Nat.le_refl _) _).alloc (by simp) _).alloc (by simp; omega) _).alloc (by simp; omega) _).alloc (by simp; omega) _
  have x0 := (((((Boxed.new w 3 (.int .i64 n)).alloc (.cells #[.slice none 0 0] 22)).alloc (.cells #[.int .u64 (s : Int)] 25)).alloc (.cells #[.bool false] 4)).alloc (.cells #[.bool false] 4))
  have x1 := (((Boxed.new (w.alloc (.cells #[.int .i64 n] 3)) 22 (.slice none 0 0)).alloc (.cells #[.int .u64 (s : Int)] 25)).alloc (.cells #[.bool false] 4)).alloc (.cells #[.bool false] 4)
  have x2 := ((Boxed.new ((w.alloc (.cells #[.int .i64 n] 3)).alloc (.cells #[.slice none 0 0] 22)) 25 (.int .u64 (s : Int))).alloc (.cells #[.bool false] 4)).alloc (.cells #[.bool false] 4)
  have x3 := (Boxed.new (((w.alloc (.cells #[.int .i64 n] 3)).alloc (.cells #[.slice none 0 0] 22)).alloc (.cells #[.int .u64 (s : Int)] 25)) 4 (.bool false)).alloc (.cells #[.bool false] 4)
  have x4 := Boxed.new ((((w.alloc (.cells #[.int .i64 n] 3)).alloc (.cells #[.slice none 0 0] 22)).alloc (.cells #[.int .u64 (s : Int)] 25)).alloc (.cells #[.bool false] 4)) 4 (.bool false)
  simp only [World.size_alloc] at x1 x2 x3 x4
  have hz : w.heap.size + 5 ≤ (((((w.alloc (.cells #[.int .i64 n] 3)).alloc (.cells #[.slice none 0 0] 22)).alloc (.cells #[.int .u64 (s : Int)] 25)).alloc (.cells #[.bool false] 4)).alloc (.cells #[.bool false] 4)).heap.size := by simp
  generalize ((((w.alloc (.cells #[.int .i64 n] 3)).alloc (.cells #[.slice none 0 0] 22)).alloc (.cells #[.int .u64 (s : Int)] 25)).alloc (.cells #[.bool false] 4)).alloc (.cells #[.bool false] 4) = W at hB x0 x1 x2 x3 x4 hz ⊢
  have h0 : FSt w n [] false W := ⟨_, x0, x1, OwnI.nil _ _, x3, x4, hB, hz⟩
  have hc := x2.cell
  have A := callsIn_wide.1 (all_calls s HS.out (w.heap.size + 1 + 1) w.heap.size (.pointer (some ⟨w.heap.size + 1 + 1 + 1, 0, none⟩)) (.pointer (some ⟨w.heap.size + 1 + 1 + 1 + 1, 0, none⟩)) (.pointer (some ⟨w.heap.size + 1, 0, none⟩)) (.pointer (some ⟨w.heap.size, 0, none⟩))
    (fun pre W => FSt w n pre false W ∧ (pre.length : Int) < n) (fun pre W => FSt w n pre true W ∧ (pre.length : Int) = n) (fun pre x W ⟨h1, h2⟩ h3 => ?_) W hc (HG.out.below hB) HL.out ⟨h0, by simp; omega⟩)
  · refine A.mono ?_
    rintro e w3 ⟨⟨r, rfl⟩, hend⟩
    have fin : ∃ b, FSt w n ((elems s).take n.toNat) b w3 := by
      rcases hend with ⟨h1, h2⟩ | ⟨pre, h1, h2, h3⟩
      · exact ⟨false, by rw [List.take_of_length_le (by omega)]; exact h1⟩
      · exact ⟨true, by rw [← take_pre h1 h3]; exact h2⟩
    obtain ⟨b, v, y0, y1, own, y3, y4, hb, _⟩ := fin
    have c1 := y1.cell
    have c4 := y4.cell
    have OW := Lib.hid own
    have HB := Lib.hid hb
    clear hend y0 y1 y3 y4 own hb A x0 x1 x2 x3 x4 h0 hc hB hz FN
    go_wp2_with fail
    go_ret
    exact ⟨v, rfl, OW.out.lst, HB.out⟩
  · by_cases hm : n ≤ (pre.length : Int) + 1
    · refine (yield_any w n pre x h3 W h1 false (by simp [hm])).mono ?_
      rintro e w4 ⟨rfl, f, b⟩
      exact Or.inr ⟨rfl, f, by rw [List.length_append]; simp; omega⟩
    · refine (yield_any w n pre x h3 W h1 true (by simp [hm])).mono ?_
      rintro e w4 ⟨rfl, f, b⟩
      exact Or.inl ⟨rfl, ⟨f, by rw [List.length_append]; simp; omega⟩, b⟩
end Go.Proofs.YtdgbahmecjcljaaDoor
