/-
  Push and New of a heap of structs of three ints; a heap's elements after many. Condition: keys are ints; at most 2^20 elements.
-/
import Derived.Test.YtahbgafjljfndaaZPop
import Derived.Deep.RegionLaw
namespace Go.Proofs.Ytahbgafjljfndaa
open Go.RowKit

theorem push_st {fn : Value} {B n : Nat} {l : List (Pr × Nat)} (x : Pr) (hx : Ok3 x) (ho : ∀ e ∈ l, Ok3 e.1) (w : World) (v v1 : Value) (hv : w.heap[B]? = some (.cells #[fn, v, .int .u64 (n : Int)] 77 (0, 0))) (o : OwnE w (B + 1) v1 (l ++ [(x, n)])) :
    St ((w.setCell ⟨B, 1, none⟩ v1).setCell ⟨B, 2, none⟩ (.int .u64 ((n : Int) + 1))) B fn (l ++ [(x, n)]) (n + 1) ∧ Fr HT B w ((w.setCell ⟨B, 1, none⟩ v1).setCell ⟨B, 2, none⟩ (.int .u64 ((n : Int) + 1))) := by
  have t : Tag w B 77 := ⟨_, _, hv⟩
  have h1 := heap_setCell_same w B 1 _ _ v1 hv
  have h2 := heap_setCell_same (w.setCell ⟨B, 1, none⟩ v1) B 2 _ _ (.int .u64 ((n : Int) + 1)) h1
  refine ⟨⟨fun e he => ?_, v1, ?_, ?_⟩, ((Fr.refl HT B w).setCell (Nat.le_refl _) (.inl rfl) (fun _ => t) _).setCell (Nat.le_refl _) (.inl rfl) (fun _ => t) _⟩
  · rcases List.mem_append.1 he with he | he
    · exact ho e he
    · simp at he
      subst he
      exact hx
  · rw [h2]
    simp
  · exact ownsRow_setCell_below (ownsRow_setCell_below o (Nat.lt_succ_self B) _) (Nat.lt_succ_self B) _
set_option maxRecDepth 100000 in
set_option maxHeartbeats 4000000 in
theorem push_any {fn : Value} {less : Pr → Pr → Bool} (hf : Fun fn less) (B n : Nat) (l : List (Pr × Nat)) (x : Pr) (hx : Ok3 x) (hl : l.length ≤ 1000000) (hn : n ≤ 1000000) (w : World) (h : St w B fn l n) :
    Calls Try.prog 38 #[.pointer (some ⟨B, 0, none⟩), .agg #[.int .i64 x.1, .int .i64 x.2.1, .int .i64 x.2.2]] w fun e w' => e = .returned (.tuple #[]) ∧ St w' B fn (pushH less l n x) (n + 1) ∧ Fr HT B w w' := by
  have HF := Lib.hid hf
  have hB := h.lt
  have h0 := h.below ((Below.refl w.heap.size w).alloc (Nat.le_refl _) (.cells #[.int .i64 x.1, .int .i64 x.2.1, .int .i64 x.2.2] 66 (0, 0)))
  have F0 := Lib.hid ((Fr.refl HT B w).alloc (.cells #[.int .i64 x.1, .int .i64 x.2.1, .int .i64 x.2.2] 66 (0, 0)))
  have HX := Lib.hid hx
  clear h hf hx
  go_enter Try.func38, Try.ntmps38
  go_wp2_with fail
  have rx := heap_alloc_new w (.cells #[.int .i64 x.1, .int .i64 x.2.1, .int .i64 x.2.2] 66 (0, 0))
  have hz : w.heap.size < (w.alloc (.cells #[.int .i64 x.1, .int .i64 x.2.1, .int .i64 x.2.2] 66 (0, 0))).heap.size := by simp
  generalize w.alloc (.cells #[.int .i64 x.1, .int .i64 x.2.1, .int .i64 x.2.2] 66 (0, 0)) = w0 at h0 F0 rx hz ⊢
  have k0 : w0.cell? ⟨w.heap.size, 0, none⟩ = some (.int .i64 x.1) := by rw [cell_of_row _ _ 0 _ _ _ rx]; rfl
  have k1 : w0.cell? ⟨w.heap.size, 1, none⟩ = some (.int .i64 x.2.1) := by rw [cell_of_row _ _ 1 _ _ _ rx]; rfl
  have k2 : w0.cell? ⟨w.heap.size, 2, none⟩ = some (.int .i64 x.2.2) := by rw [cell_of_row _ _ 2 _ _ _ rx]; rfl
  obtain ⟨v, m0, m1, m2, r0, r1, r2, o⟩ := h0.cells
  obtain ⟨A, c, rfl, hc⟩ := ownK_shape o
  have HO := Lib.hid o
  have H0 := Lib.hid h0
  have hB0 : B < w0.heap.size := by omega
  have M2 := Lib.hid m2
  have R1 := Lib.hid r1
  have R2 := Lib.hid r2
  have M1 := Lib.hid m1
  clear o h0 rx hc m0 r0 r1 r2
  go_region_law (first | (refine stepG_one ec_len ec_one (by decide) Try.underlying74 info_el rfl (by decide) _ rfl _ _ rfl (B + 1) _ l (x, n) rfl (World.ownsRow.alloc HO.out _) w0.heap.size _ (heap_alloc_new _ _) rfl rfl (by simp; omega) (by omega) ?_
                          intro v1 w1 own1 b1 gr1
                          obtain ⟨-, hnil⟩ | ⟨g, c1, rfl, g0, g1, hc1⟩ := OwnG.low own1
                          · simp at hnil
                          have q1 : w1.cell? ⟨B, 1, none⟩ = some (.slice A l.length c) := (b1.cell (p := ⟨B, 1, none⟩) (Nat.lt_succ_self B)).trans ((World.cell?_alloc_past _ _ _ (by exact hB0)).trans M1.out)
                          have u1 : w1.frozen? ⟨B, 1, none⟩ = false := (b1.frozen (p := ⟨B, 1, none⟩) (Nat.lt_succ_self B)).trans ((World.frozen?_alloc_past _ _ _ (by exact hB0)).trans R1.out)
                          have q2 : w1.cell? ⟨B, 2, none⟩ = some (.int .u64 (n : Int)) := (b1.cell (p := ⟨B, 2, none⟩) (Nat.lt_succ_self B)).trans ((World.cell?_alloc_past _ _ _ (by exact hB0)).trans M2.out)
                          have u2 : w1.frozen? ⟨B, 2, none⟩ = false := (b1.frozen (p := ⟨B, 2, none⟩) (Nat.lt_succ_self B)).trans ((World.frozen?_alloc_past _ _ _ (by exact hB0)).trans R2.out)
                          have F1 : Hid (Fr HT B w w1) := ((F0.out.alloc _).drew).grown (World.ownsRow.alloc HO.out _) (Nat.le_succ B) (.inr rfl) gr1
                          have X1 : Hid (w1.heap[B]? = w0.heap[B]?) := (b1.block B (Nat.lt_succ_self B)).trans (Go.heap_alloc_old w0 _ hB0)
                          have O1 := Lib.hid own1
                          clear b1 gr1 own1 m1 m2))
  all_goals
    have K : Hid (St ((w1.setCell ⟨B, 1, none⟩ (.slice (some ⟨g, 0, none⟩) (l.length + 1) c1)).setCell ⟨B, 2, none⟩ (.int .u64 ((n : Int) + 1))) B fn (l ++ [(x, n)]) (n + 1) ∧ Fr HT B w ((w1.setCell ⟨B, 1, none⟩ (.slice (some ⟨g, 0, none⟩) (l.length + 1) c1)).setCell ⟨B, 2, none⟩ (.int .u64 ((n : Int) + 1)))) := by
      obtain ⟨hok, vv, hvv, _⟩ := H0.out
      have O2 := O1.out
      simp only [List.length_append, List.length_cons, List.length_nil, Nat.zero_add] at O2
      have K := push_st x HX.out hok w1 vv _ (X1.out.trans hvv) O2
      exact ⟨K.1, F1.out.trans K.2⟩
    clear F1 X1 O1 k0 k1 k2
    go_wp2_with fail
    refine (raise_any HF.out B (n + 1) (l ++ [(x, n)]) l.length (by simp) (by simp; omega) _ K.out.1).mono ?_
    rintro e w2 ⟨rfl, s2, f2⟩
    have S2 := Lib.hid s2
    have F2 := Lib.hid (K.out.2.trans f2)
    clear s2 f2 K q1 q2 u1 u2
    go_wp2_with fail
    go_end0
    exact ⟨rfl, S2.out, F2.out⟩
theorem run_equalIn_fn (d : Nat) (t : TypeId) (fn : Fn) (a b : Array Value) {x y : Array TypeId} {z : Bool} (h : Try.prog.underlying t = some (.func x y z)) (w : World) : (Op.equalIn (d + 1) t (.func fn a b) .nilFunc).run Try.prog w = .ok false w := by
  simp [Op.equalIn, run_underlying h]
theorem run_equal_fn (t : TypeId) (fn : Fn) (a b : Array Value) {x y : Array TypeId} {z : Bool} (h : Try.prog.underlying t = some (.func x y z)) (w : World) : (Op.equal t (.func fn a b) .nilFunc).run Try.prog w = .ok false w := run_equalIn_fn 9999 t fn a b h w
theorem fn_not_nil (t : TypeId) (fn : Fn) (a b : Array Value) {x y : Array TypeId} {z : Bool} (h : Try.prog.underlying t = some (.func x y z)) (w : World) : (binOp BinOp.eql t (.func fn a b) .nilFunc).run Try.prog w = .ok (.bool false) w := by
  simp only [binOp]
  simp [run_equal_fn t fn a b h w]
theorem run_equalIn_nn (d : Nat) (t : TypeId) {x y : Array TypeId} {z : Bool} (h : Try.prog.underlying t = some (.func x y z)) (w : World) : (Op.equalIn (d + 1) t .nilFunc .nilFunc).run Try.prog w = .ok true w := by
  simp [Op.equalIn, run_underlying h]
theorem run_equal_nn (t : TypeId) {x y : Array TypeId} {z : Bool} (h : Try.prog.underlying t = some (.func x y z)) (w : World) : (Op.equal t .nilFunc .nilFunc).run Try.prog w = .ok true w := run_equalIn_nn 9999 t h w
theorem fn_nil (t : TypeId) {x y : Array TypeId} {z : Bool} (h : Try.prog.underlying t = some (.func x y z)) (w : World) : (binOp BinOp.eql t .nilFunc .nilFunc).run Try.prog w = .ok (.bool true) w := by
  simp only [binOp]
  simp [run_equal_nn t h w]
theorem new_any {fn : Value} {less : Pr → Pr → Bool} (hf : Fun fn less) (w : World) :
    Calls Try.prog 34 #[fn] w fun e w' => e = .returned (.pointer (some ⟨w.heap.size, 0, none⟩)) ∧ St w' w.heap.size fn [] 0 ∧ Below w.heap.size w w' := by
  obtain ⟨K, rfl, -, -⟩ := hf
  have FN := fun W => fn_not_nil 68 (.func K) #[] #[] Try.underlying68 W
  go_enter Try.func34, Try.ntmps34
  go_wp2_with fail
  go_ret
  refine ⟨rfl, ⟨(fun e he => by cases he), .slice none 0 0, heap_alloc_new _ _, OwnG.nil _ _ _ _ _⟩, (Below.refl _ _).alloc (Nat.le_refl _) _⟩
theorem pop_zero (p : Value) (w : World) (C : Calls Try.prog 42 #[p] (w.alloc (.cells #[.int .i64 0, .int .i64 0, .int .i64 0] 66 (0, 0))) fun e w' => e = .returned (.tuple #[.agg #[.int .i64 0, .int .i64 0, .int .i64 0], .bool false]) ∧ Below (w.alloc (.cells #[.int .i64 0, .int .i64 0, .int .i64 0] 66 (0, 0))).heap.size (w.alloc (.cells #[.int .i64 0, .int .i64 0, .int .i64 0] 66 (0, 0))) w') :
    Calls Try.prog 39 #[p] w fun e w' => e = .returned (.tuple #[.agg #[.int .i64 0, .int .i64 0, .int .i64 0], .bool false]) ∧ Below w.heap.size w w' := by
  have CC := Lib.hid C
  clear C
  go_enter Try.func39, Try.ntmps39
  go_wp2_with fail
  refine CC.out.mono ?_
  rintro e w1 ⟨rfl, b1⟩
  have b0 : Below w.heap.size w (w.alloc (.cells #[.int .i64 0, .int .i64 0, .int .i64 0] 66 (0, 0))) := (Below.refl w.heap.size w).alloc (Nat.le_refl _) _
  have hz : w.heap.size < w1.heap.size := by have := b1.size; simp at this; omega
  have rb := (b1.block w.heap.size (by simp)).trans (heap_alloc_new w (.cells #[.int .i64 0, .int .i64 0, .int .i64 0] 66 (0, 0)))
  have W1 := Lib.hid (b0.trans (b1.mono b0.size))
  have t0 : w1.cell? ⟨w.heap.size, 0, none⟩ = some (.int .i64 0) := by rw [cell_of_row _ _ 0 _ _ _ rb]; rfl
  have t1 : w1.cell? ⟨w.heap.size, 1, none⟩ = some (.int .i64 0) := by rw [cell_of_row _ _ 1 _ _ _ rb]; rfl
  have t2 : w1.cell? ⟨w.heap.size, 2, none⟩ = some (.int .i64 0) := by rw [cell_of_row _ _ 2 _ _ _ rb]; rfl
  have v2 := frozen_of_row _ _ 2 _ _ rb
  have v0 := frozen_of_row _ _ 0 _ _ rb
  have v1 := frozen_of_row _ _ 1 _ _ rb
  clear rb b0 b1 CC
  go_wp2_with fail
  exact bodyPost_ret (v := .tuple #[.agg #[.int .i64 0, .int .i64 0, .int .i64 0], .bool false]) (by simp [results, Try.results39, go_sem, hz, t0, t1, t2]) rfl ⟨rfl, (((W1.out.setCell (p := ⟨w.heap.size, 0, none⟩) (Nat.le_refl _) _).setCell (p := ⟨w.heap.size, 1, none⟩) (Nat.le_refl _) _).setCell (p := ⟨w.heap.size, 2, none⟩) (Nat.le_refl _) _).alloc (by simp [World.setCell]; omega) _⟩
theorem pop_nil (w : World) : Calls Try.prog 39 #[.pointer none] w fun e w' => e = .returned (.tuple #[.agg #[.int .i64 0, .int .i64 0, .int .i64 0], .bool false]) ∧ Below w.heap.size w w' := pop_zero _ w (peek_nil _)
theorem pop_no {fn : Value} (B n : Nat) (w : World) (h : St w B fn [] n) : Calls Try.prog 39 #[.pointer (some ⟨B, 0, none⟩)] w fun e w' => e = .returned (.tuple #[.agg #[.int .i64 0, .int .i64 0, .int .i64 0], .bool false]) ∧ Below w.heap.size w w' :=
  pop_zero _ w (peek_no B n _ (h.below ((Below.refl _ _).alloc (Nat.le_refl _) _)))
/-- Pop, whatever the heap holds. -/
def Popped (less : Pr → Pr → Bool) (B : Nat) (fn : Value) (n : Nat) (l : List (Pr × Nat)) (w : World) (e : Ending) (w' : World) : Prop :=
  (∃ a, l[0]? = some a ∧ e = .returned (.tuple #[.agg #[.int .i64 a.1.1, .int .i64 a.1.2.1, .int .i64 a.1.2.2], .bool true]) ∧ St w' B fn (popH less l) n ∧ Fr HT B w w') ∨
  (l = [] ∧ e = .returned (.tuple #[.agg #[.int .i64 0, .int .i64 0, .int .i64 0], .bool false]) ∧ St w' B fn [] n ∧ Fr HT B w w')
theorem pop_all {fn : Value} {less : Pr → Pr → Bool} (hf : Fun fn less) (B n : Nat) (l : List (Pr × Nat)) (hl : l.length ≤ 1048576) (w : World) (h : St w B fn l n) :
    Calls Try.prog 39 #[.pointer (some ⟨B, 0, none⟩)] w (Popped less B fn n l w) := by
  cases l with
  | nil => exact (pop_no B n w h).mono fun e w' ⟨h1, h2⟩ => .inr ⟨rfl, h1, h.below h2, Below.fr h2⟩
  | cons a r => exact (pop_yes hf B n (a :: r) a rfl hl w h).mono fun e w' ⟨h1, h2, h3⟩ => .inl ⟨a, rfl, h1, h2, h3⟩
end Go.Proofs.Ytahbgafjljfndaa
