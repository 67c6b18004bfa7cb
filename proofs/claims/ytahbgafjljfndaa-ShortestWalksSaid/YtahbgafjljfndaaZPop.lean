/-
  Len, Peek, Pop, Push, New of a heap of structs of three ints. Condition: keys are ints; at most 2^20 elements.
-/
import Derived.Test.YtahbgafjljfndaaZDn
namespace Go.Proofs.Ytahbgafjljfndaa
open Go.RowKit

theorem len_any {fn : Value} (B n : Nat) (l : List (Pr × Nat)) (w : World) (h : St w B fn l n) : Calls Try.prog 46 #[.pointer (some ⟨B, 0, none⟩)] w fun e w' => e = .returned (.int .i64 ((l.length : Nat) : Int)) ∧ w = w' := by
  obtain ⟨A, c, m1⟩ := h.slice
  clear h
  go_enter Try.func46, Try.ntmps46
  go_wp2_with fail
  go_ret
  exact ⟨rfl, rfl⟩
theorem len_nil (w : World) : Calls Try.prog 46 #[.pointer none] w fun e w' => e = .returned (.int .i64 0) ∧ w = w' := by
  go_enter Try.func46, Try.ntmps46
  go_wp2_with fail
  go_ret
  exact ⟨rfl, rfl⟩
theorem peek_nil (w : World) : Calls Try.prog 42 #[.pointer none] w fun e w' => e = .returned (.tuple #[.agg #[.int .i64 0, .int .i64 0, .int .i64 0], .bool false]) ∧ Below w.heap.size w w' := by
  go_enter Try.func42, Try.ntmps42
  go_wp2_with fail
  refine (len_nil _).mono ?_
  rintro e w' ⟨rfl, rfl⟩
  go_wp2_with fail
  exact bodyPost_ret (v := .tuple #[.agg #[.int .i64 0, .int .i64 0, .int .i64 0], .bool false]) (by simp [results, Try.results42, go_sem]) rfl ⟨rfl, ((Below.refl _ _).alloc (Nat.le_refl _) _).alloc (by simp) _⟩
theorem peek_no {fn : Value} (B n : Nat) (w : World) (h : St w B fn [] n) : Calls Try.prog 42 #[.pointer (some ⟨B, 0, none⟩)] w fun e w' => e = .returned (.tuple #[.agg #[.int .i64 0, .int .i64 0, .int .i64 0], .bool false]) ∧ Below w.heap.size w w' := by
  have C := Lib.hid (len_any B n [] _ (h.below ((Below.refl w.heap.size w).alloc (Nat.le_refl _) (.cells #[.int .i64 0, .int .i64 0, .int .i64 0] 66 (0, 0)))))
  clear h
  go_enter Try.func42, Try.ntmps42
  go_wp2_with fail
  refine C.out.mono ?_
  rintro e w' ⟨rfl, rfl⟩
  go_wp2_with fail
  exact bodyPost_ret (v := .tuple #[.agg #[.int .i64 0, .int .i64 0, .int .i64 0], .bool false]) (by simp [results, Try.results42, go_sem]) rfl ⟨rfl, ((Below.refl _ _).alloc (Nat.le_refl _) _).alloc (by simp) _⟩
theorem peek_yes {fn : Value} (B n : Nat) (l : List (Pr × Nat)) (a : Pr × Nat) (ha : l[0]? = some a) (hl : l.length ≤ 1048576) (w : World) (h : St w B fn l n) : Calls Try.prog 42 #[.pointer (some ⟨B, 0, none⟩)] w fun e w' => e = .returned (.tuple #[.agg #[.int .i64 a.1.1, .int .i64 a.1.2.1, .int .i64 a.1.2.2], .bool true]) ∧ Below w.heap.size w w' := by
  have h' := h.below ((Below.refl w.heap.size w).alloc (Nat.le_refl _) (.cells #[.int .i64 0, .int .i64 0, .int .i64 0] 66 (0, 0)))
  have C := Lib.hid (len_any B n l _ h')
  have hB := h.lt
  obtain ⟨v, m0, m1, m2, -, -, -, o⟩ := h.cells
  have hi := (List.getElem?_eq_some_iff.1 ha).1
  rcases o.low with ⟨-, rfl⟩ | ⟨g, c, rfl, g0, g1, hc⟩
  · simp at hi
  obtain ⟨x0, x1, x2, x3, -⟩ := OwnE.at o ha
  simp at x0 x1 x2
  have gk : ¬ (l.length : Int) = 0 := by omega
  have g2 : (0 : Int) < (l.length : Int) := by omega
  clear h h' m0 m2 x3 o ha
  go_enter Try.func42, Try.ntmps42
  go_wp2_with fail
  refine C.out.mono ?_
  rintro e w' ⟨rfl, rfl⟩
  go_wp2_with fail
  exact bodyPost_ret (v := .tuple #[.agg #[.int .i64 a.1.1, .int .i64 a.1.2.1, .int .i64 a.1.2.2], .bool true]) (by simp [results, Try.results42, go_sem]) rfl ⟨rfl, (Below.refl _ _).alloc (Nat.le_refl _) _⟩
/-- The last element is laid upon the first one. -/
theorem pop_mid {B : Nat} {l : List (Pr × Nat)} (a b : Pr × Nat) (w : World) (g c : Nat) (hl : 0 < l.length) (hg : B < g) (o : OwnE w (B + 1) (.slice (some ⟨g, 0, none⟩) l.length c) l) :
    OwnE (((((w.setCell ⟨g, 0, none⟩ (.int .i64 b.1.1)).setCell ⟨g, 1, none⟩ (.int .i64 b.1.2.1)).setCell ⟨g, 2, none⟩ (.int .i64 b.1.2.2)).setCell ⟨g, 3, none⟩ (.int .u64 (b.2 : Int))).alloc (.cells #[.int .i64 a.1.1, .int .i64 a.1.2.1, .int .i64 a.1.2.2] 66 (0, 0))).drew (B + 1) (.slice (some ⟨g, 0, none⟩) (l.set 0 b).length c) (l.set 0 b) ∧
    (∀ k, k ≠ g → k < w.heap.size → (((((w.setCell ⟨g, 0, none⟩ (.int .i64 b.1.1)).setCell ⟨g, 1, none⟩ (.int .i64 b.1.2.1)).setCell ⟨g, 2, none⟩ (.int .i64 b.1.2.2)).setCell ⟨g, 3, none⟩ (.int .u64 (b.2 : Int))).alloc (.cells #[.int .i64 a.1.1, .int .i64 a.1.2.1, .int .i64 a.1.2.2] 66 (0, 0))).drew.heap[k]? = w.heap[k]?) ∧
    (((((w.setCell ⟨g, 0, none⟩ (.int .i64 b.1.1)).setCell ⟨g, 1, none⟩ (.int .i64 b.1.2.1)).setCell ⟨g, 2, none⟩ (.int .i64 b.1.2.2)).setCell ⟨g, 3, none⟩ (.int .u64 (b.2 : Int))).alloc (.cells #[.int .i64 a.1.1, .int .i64 a.1.2.1, .int .i64 a.1.2.2] 66 (0, 0))).drew.heap[w.heap.size]? = some (.cells #[.int .i64 a.1.1, .int .i64 a.1.2.1, .int .i64 a.1.2.2] 66 (0, 0)) ∧
    Fr HT B w (((((w.setCell ⟨g, 0, none⟩ (.int .i64 b.1.1)).setCell ⟨g, 1, none⟩ (.int .i64 b.1.2.1)).setCell ⟨g, 2, none⟩ (.int .i64 b.1.2.2)).setCell ⟨g, 3, none⟩ (.int .u64 (b.2 : Int))).alloc (.cells #[.int .i64 a.1.1, .int .i64 a.1.2.1, .int .i64 a.1.2.2] 66 (0, 0))).drew ∧
    w.heap.size < (((((w.setCell ⟨g, 0, none⟩ (.int .i64 b.1.1)).setCell ⟨g, 1, none⟩ (.int .i64 b.1.2.1)).setCell ⟨g, 2, none⟩ (.int .i64 b.1.2.2)).setCell ⟨g, 3, none⟩ (.int .u64 (b.2 : Int))).alloc (.cells #[.int .i64 a.1.1, .int .i64 a.1.2.1, .int .i64 a.1.2.2] 66 (0, 0))).drew.heap.size := by
  have hl1 : (l.set 0 b).length = l.length := List.length_set
  have h1 : OwnE (put3 w g 0 b) (B + 1) (.slice (some ⟨g, 0, none⟩) (l.set 0 b).length c) (l.set 0 b) := by
    rw [hl1]
    have := OwnE.put o (i := 0) hl b
    rw [Nat.zero_mul] at this
    exact this
  have hz : (put3 w g 0 b).heap.size = w.heap.size := by unfold put3; simp [World.setCell]
  have hb : Fr HT B w (put3 w g 0 b) := put3_fr (by omega) o.tag _ _
  have hk := put3_block w g 0 b
  have K : OwnE ((put3 w g 0 b).alloc (.cells #[.int .i64 a.1.1, .int .i64 a.1.2.1, .int .i64 a.1.2.2] 66 (0, 0))).drew (B + 1) (.slice (some ⟨g, 0, none⟩) (l.set 0 b).length c) (l.set 0 b) ∧
    (∀ k, k ≠ g → k < w.heap.size → ((put3 w g 0 b).alloc (.cells #[.int .i64 a.1.1, .int .i64 a.1.2.1, .int .i64 a.1.2.2] 66 (0, 0))).drew.heap[k]? = w.heap[k]?) ∧
    ((put3 w g 0 b).alloc (.cells #[.int .i64 a.1.1, .int .i64 a.1.2.1, .int .i64 a.1.2.2] 66 (0, 0))).drew.heap[w.heap.size]? = some (.cells #[.int .i64 a.1.1, .int .i64 a.1.2.1, .int .i64 a.1.2.2] 66 (0, 0)) ∧
    Fr HT B w ((put3 w g 0 b).alloc (.cells #[.int .i64 a.1.1, .int .i64 a.1.2.1, .int .i64 a.1.2.2] 66 (0, 0))).drew ∧
    w.heap.size < ((put3 w g 0 b).alloc (.cells #[.int .i64 a.1.1, .int .i64 a.1.2.1, .int .i64 a.1.2.2] 66 (0, 0))).drew.heap.size := by
    refine ⟨(h1.below ((Below.refl _ _).alloc (Nat.le_refl _) _)).below (Below.refl _ _).drew, fun k k1 k2 => ?_, ?_, (hb.alloc _).drew, ?_⟩
    · show ((put3 w g 0 b).alloc _).heap[k]? = _
      exact (Go.heap_alloc_old _ _ (by rw [hz]; exact k2)).trans (hk k k1)
    · show ((put3 w g 0 b).alloc _).heap[w.heap.size]? = _
      rw [← hz]
      exact heap_alloc_new _ _
    · show _ < ((put3 w g 0 b).alloc _).heap.size
      simp [hz]
  unfold put3 at K
  exact K
/-- The last place is given up. -/
theorem cut_st {fn : Value} {B n m : Nat} {l : List (Pr × Nat)} (b : Pr × Nat) (hm : l.length - 1 = m) (hb : l[m]? = some b) (ho : ∀ e ∈ l, Ok3 e.1) (w : World) (g c : Nat) (v : Value) (hg : B < g) (hv : w.heap[B]? = some (.cells #[fn, v, .int .u64 (n : Int)] 77 (0, 0))) (o : OwnE w (B + 1) (.slice (some ⟨g, 0, none⟩) (l.set 0 b).length c) (l.set 0 b)) :
    St (((((w.setCell ⟨g, m * 4, none⟩ (.int .i64 0)).setCell ⟨g, m * 4 + 1, none⟩ (.int .i64 0)).setCell ⟨g, m * 4 + 2, none⟩ (.int .i64 0)).setCell ⟨g, m * 4 + 3, none⟩ (.int .u64 0)).setCell ⟨B, 1, none⟩ (.slice (some ⟨g, 0, none⟩) m c)) B fn (cutH l) n ∧
    Fr HT B w (((((w.setCell ⟨g, m * 4, none⟩ (.int .i64 0)).setCell ⟨g, m * 4 + 1, none⟩ (.int .i64 0)).setCell ⟨g, m * 4 + 2, none⟩ (.int .i64 0)).setCell ⟨g, m * 4 + 3, none⟩ (.int .u64 0)).setCell ⟨B, 1, none⟩ (.slice (some ⟨g, 0, none⟩) m c)) := by
  subst hm
  have hj := (List.getElem?_eq_some_iff.1 hb).1
  obtain ⟨a, ha⟩ := at_lt (l := l) (k := 0) (by omega)
  have e : cutH l = ((l.set 0 b).set (l.length - 1) ((0, 0, 0), 0)).take (l.length - 1) := by
    unfold cutH
    rw [swp_eq ha hb]
    apply List.ext_getElem?
    intro k
    rw [List.getElem?_take, List.getElem?_take]
    by_cases hk : k < l.length - 1
    · rw [if_pos hk, if_pos hk, List.getElem?_set_ne (i := l.length - 1) (by omega), List.getElem?_set_ne (i := l.length - 1) (by omega)]
    · rw [if_neg hk, if_neg hk]
  have hb1 : Fr HT B w (put3 w g ((l.length - 1) * 4) ((0, 0, 0), 0)) := put3_fr (by omega) o.tag _ _
  have K : St ((put3 w g ((l.length - 1) * 4) ((0, 0, 0), 0)).setCell ⟨B, 1, none⟩ (.slice (some ⟨g, 0, none⟩) (l.length - 1) c)) B fn (cutH l) n ∧ Fr HT B w ((put3 w g ((l.length - 1) * 4) ((0, 0, 0), 0)).setCell ⟨B, 1, none⟩ (.slice (some ⟨g, 0, none⟩) (l.length - 1) c)) := by
    refine ⟨⟨fun x hx => ?_, .slice (some ⟨g, 0, none⟩) (l.length - 1) c, ?_, ?_⟩, hb1.setCell (Nat.le_refl _) (.inl rfl) (fun _ => ⟨_, _, hv⟩) _⟩
    · have := cut_perm l a ha
      exact ho x (this.symm.subset (List.mem_cons_of_mem _ hx))
    · have hw : (put3 w g ((l.length - 1) * 4) ((0, 0, 0), 0)).heap[B]? = some (.cells #[fn, v, .int .u64 (n : Int)] 77 (0, 0)) := by
        rw [put3_block _ _ _ _ _ (by omega), hv]
      rw [heap_setCell_same _ _ _ _ _ _ hw]
      rfl
    · have hl1 : (l.set 0 b).length = l.length := List.length_set
      have h2 := OwnE.put o (i := l.length - 1) (by rw [hl1]; exact hj) ((0, 0, 0), 0)
      rw [hl1] at h2
      have h3 := OwnG.part ec_len (by rw [List.length_set, hl1]) h2 (l.length - 1) (by omega)
      rw [e]
      exact ownsRow_setCell_below h3 (Nat.lt_succ_self B) _
  unfold put3 at K
  exact K
/-- h.elements[:m]. -/
theorem part_run (g m L c : Nat) (hm : m ≤ L) (hL : L ≤ c) (W : World) : (Instr.slice 74 (.slice (some ⟨g, 0, none⟩) L c) none (some (.int .i64 (m : Int))) none).run Try.prog W = .ok (.slice (some ⟨g, 0, none⟩) m c) W := by
  have he : Try.prog.elem 74 = 79 := by simp [Program.elem, Try.underlying74]
  have hu : Try.prog.underlying 74 = some (.slice (Try.prog.elem 74)) := by rw [he]; exact Try.underlying74
  rw [run_slice_h W 74 _ L c hu .i64 m (by omega) (by omega), he, Try.sizeOf79]
  simp [sliced, Result.andThen, Addr.add_lit]
set_option maxRecDepth 100000 in
set_option maxHeartbeats 4000000 in
theorem pop_yes {fn : Value} {less : Pr → Pr → Bool} (hf : Fun fn less) (B n : Nat) (l : List (Pr × Nat)) (a : Pr × Nat) (ha : l[0]? = some a) (hl : l.length ≤ 1048576) (w : World) (h : St w B fn l n) :
    Calls Try.prog 39 #[.pointer (some ⟨B, 0, none⟩)] w fun e w' => e = .returned (.tuple #[.agg #[.int .i64 a.1.1, .int .i64 a.1.2.1, .int .i64 a.1.2.2], .bool true]) ∧ St w' B fn (popH less l) n ∧ Fr HT B w w' := by
  have hi := (List.getElem?_eq_some_iff.1 ha).1
  obtain ⟨b, hb⟩ := at_lt (l := l) (k := l.length - 1) (by omega)
  have H := Lib.hid h
  have C := Lib.hid (fun W hw => peek_yes (fn := fn) B n l a ha hl W hw)
  have HB := Lib.hid hb
  have HF := Lib.hid hf
  have hB := h.lt
  have hlx : ((l.length : Nat) : Int) - 1 = ((l.length - 1 : Nat) : Int) := by omega
  clear h ha hb hf
  obtain ⟨m, hm⟩ : ∃ m, l.length - 1 = m := ⟨_, rfl⟩
  rw [hm] at hlx HB
  have HM := Lib.hid hm
  have hml : m < l.length := by omega
  clear hm
  go_enter Try.func39, Try.ntmps39
  go_wp2_with fail
  have b0 : Below w.heap.size w (w.alloc (.cells #[.int .i64 0, .int .i64 0, .int .i64 0] 66 (0, 0))) := (Below.refl w.heap.size w).alloc (Nat.le_refl _) _
  refine (C.out _ (H.out.below b0)).mono ?_
  rintro e w1 ⟨rfl, b1⟩
  have S1 := Lib.hid (H.out.below (b0.trans (b1.mono b0.size)))
  have W1 : Hid (Below w.heap.size w w1) := b0.trans (b1.mono b0.size)
  have n0 := (b1.cell (p := ⟨w.heap.size, 0, none⟩) (by simp)).trans (show (w.alloc (.cells #[.int .i64 0, .int .i64 0, .int .i64 0] 66 (0, 0))).cell? ⟨w.heap.size, 0, none⟩ = some (.int .i64 0) by go_simp)
  have n1 := (b1.cell (p := ⟨w.heap.size, 1, none⟩) (by simp)).trans (show (w.alloc (.cells #[.int .i64 0, .int .i64 0, .int .i64 0] 66 (0, 0))).cell? ⟨w.heap.size, 1, none⟩ = some (.int .i64 0) by go_simp)
  have n2 := (b1.cell (p := ⟨w.heap.size, 2, none⟩) (by simp)).trans (show (w.alloc (.cells #[.int .i64 0, .int .i64 0, .int .i64 0] 66 (0, 0))).cell? ⟨w.heap.size, 2, none⟩ = some (.int .i64 0) by go_simp)
  have f0 := (b1.frozen (p := ⟨w.heap.size, 0, none⟩) (by simp)).trans (show (w.alloc (.cells #[.int .i64 0, .int .i64 0, .int .i64 0] 66 (0, 0))).frozen? ⟨w.heap.size, 0, none⟩ = false by go_simp)
  have f1 := (b1.frozen (p := ⟨w.heap.size, 1, none⟩) (by simp)).trans (show (w.alloc (.cells #[.int .i64 0, .int .i64 0, .int .i64 0] 66 (0, 0))).frozen? ⟨w.heap.size, 1, none⟩ = false by go_simp)
  have f2 := (b1.frozen (p := ⟨w.heap.size, 2, none⟩) (by simp)).trans (show (w.alloc (.cells #[.int .i64 0, .int .i64 0, .int .i64 0] 66 (0, 0))).frozen? ⟨w.heap.size, 2, none⟩ = false by go_simp)
  have hz : w.heap.size < w1.heap.size := by have := b1.size; simp at this; omega
  have rb := (b1.block w.heap.size (by simp)).trans (heap_alloc_new w (.cells #[.int .i64 0, .int .i64 0, .int .i64 0] 66 (0, 0)))
  have HZ := Lib.hid hz
  obtain ⟨v, -, m1, -, -, r1, -, o⟩ := H.out.cells
  rcases o.low with ⟨-, hnil⟩ | ⟨g, c, rfl, g0, g1, hc⟩
  · rw [hnil] at hi; simp at hi
  obtain ⟨y0, y1, y2, y3, s0, s1, s2, s3⟩ := OwnE.at o HB.out
  obtain ⟨a', ha'⟩ := at_lt hi
  obtain ⟨x0, x1, x2, x3, t0, t1, t2, t3⟩ := OwnE.at o ha'
  simp only [Nat.zero_mul, Nat.zero_add] at x0 x1 x2 x3 t0 t1 t2 t3
  have O1 : Hid (OwnE w1 (B + 1) (.slice (some ⟨g, 0, none⟩) l.length c) l) := OwnG.below o W1.out
  have bc : ∀ o, w1.cell? ⟨g, o, none⟩ = w.cell? ⟨g, o, none⟩ := fun o => W1.out.cell (p := ⟨g, o, none⟩) g1
  have bf : ∀ o, w1.frozen? ⟨g, o, none⟩ = w.frozen? ⟨g, o, none⟩ := fun o => W1.out.frozen (p := ⟨g, o, none⟩) g1
  rw [← bc] at x0 x1 x2 x3 y0 y1 y2 y3
  rw [← bf] at s0 s1 s2 s3 t0 t1 t2 t3
  have M1 := (W1.out.cell (p := ⟨B, 1, none⟩) hB).trans m1
  have R1 := (W1.out.frozen (p := ⟨B, 1, none⟩) hB).trans r1
  have hml' : (m : Int) < (l.length : Int) := by omega
  have hB1 : B < w1.heap.size := by omega
  have hg1 : g < w1.heap.size := by omega
  clear b0 b1 m1 r1 o C H bc bf ha'
  go_wp2_with fail
  go_region
  obtain ⟨p1, p2, p3, p4, p5⟩ := pop_mid a b w1 g c hi (by omega) O1.out
  generalize (((((w1.setCell ⟨g, 0, none⟩ (.int .i64 b.1.1)).setCell ⟨g, 1, none⟩ (.int .i64 b.1.2.1)).setCell ⟨g, 2, none⟩ (.int .i64 b.1.2.2)).setCell ⟨g, 3, none⟩ (.int .u64 (b.2 : Int))).alloc (.cells #[.int .i64 a.1.1, .int .i64 a.1.2.1, .int .i64 a.1.2.2] 66 (0, 0))).drew = w2 at p1 p2 p3 p4 p5 ⊢
  have q1 := (World.cell?_of_block (w := w1) (a := ⟨B, 1, none⟩) (p2 B (by omega) hB1)).trans M1
  have u1 := (World.frozen?_of_block (w := w1) (a := ⟨B, 1, none⟩) (p2 B (by omega) hB1)).trans R1
  have e0 := (World.cell?_of_block (w := w1) (a := ⟨w.heap.size, 0, none⟩) (p2 w.heap.size (by omega) hz)).trans n0
  have e1 := (World.cell?_of_block (w := w1) (a := ⟨w.heap.size, 1, none⟩) (p2 w.heap.size (by omega) hz)).trans n1
  have e4 := (World.cell?_of_block (w := w1) (a := ⟨w.heap.size, 2, none⟩) (p2 w.heap.size (by omega) hz)).trans n2
  have e5 := (World.frozen?_of_block (w := w1) (a := ⟨w.heap.size, 2, none⟩) (p2 w.heap.size (by omega) hz)).trans f2
  have e2 := (World.frozen?_of_block (w := w1) (a := ⟨w.heap.size, 0, none⟩) (p2 w.heap.size (by omega) hz)).trans f0
  have e3 := (World.frozen?_of_block (w := w1) (a := ⟨w.heap.size, 1, none⟩) (p2 w.heap.size (by omega) hz)).trans f1
  have k0 : w2.cell? ⟨w1.heap.size, 0, none⟩ = some (.int .i64 a.1.1) := by rw [cell_of_row _ _ 0 _ _ _ p3]; rfl
  have k1 : w2.cell? ⟨w1.heap.size, 1, none⟩ = some (.int .i64 a.1.2.1) := by rw [cell_of_row _ _ 1 _ _ _ p3]; rfl
  have k2 : w2.cell? ⟨w1.heap.size, 2, none⟩ = some (.int .i64 a.1.2.2) := by rw [cell_of_row _ _ 2 _ _ _ p3]; rfl
  have hs1 : (l.set 0 b).length = l.length := List.length_set
  obtain ⟨b', hb'⟩ := at_lt (l := l.set 0 b) (k := m) (by omega)
  obtain ⟨z0, z1, z2, z3, i0, i1, i2, i3⟩ := OwnE.at p1 hb'
  obtain ⟨vv, hvv, _⟩ := S1.out.2
  have c1 : vv = .slice (some ⟨g, 0, none⟩) l.length c := by
    have : w1.cell? ⟨B, 1, none⟩ = some vv := by rw [cell_of_row _ _ 1 _ _ _ hvv]; rfl
    rw [M1] at this
    exact (Option.some.inj this).symm
  have CUT := Lib.hid (cut_st b HM.out HB.out S1.out.1 w2 g c vv (by omega) ((p2 B (by omega) hB1).trans hvv) p1)
  have P4 := Lib.hid (show Fr HT B w w2 from (Below.fr W1.out).trans p4)
  have RA := Lib.hid p3
  have RB := Lib.hid ((p2 w.heap.size (by omega) hz).trans rb)
  have PR := part_run g m l.length c (by omega) hc
  have hB2 : B < w2.heap.size := by omega
  have hg2 : g < w2.heap.size := by omega
  clear rb n0 n1 n2 f0 f1 f2 x0 x1 x2 x3 y0 y1 y2 y3 s0 s1 s2 s3 t0 t1 t2 t3 M1 R1 O1 p1 p2 p3 p4 hb' hvv c1 S1 hs1
  go_wp2_with fail
  refine (lower_top HF.out B n (cutH l) (by rw [cut_len]; omega) _ CUT.out.1).mono ?_
  rintro e w3 ⟨rfl, s3, b3⟩
  have b4 := Lib.hid (CUT.out.2.trans b3)
  have S3 := Lib.hid s3
  have ra := b4.out.other RA.out not_ht
  have rb := b4.out.other RB.out not_ht
  have j0 : w3.cell? ⟨w1.heap.size, 0, none⟩ = some (.int .i64 a.1.1) := by rw [cell_of_row _ _ 0 _ _ _ ra]; rfl
  have j1 : w3.cell? ⟨w1.heap.size, 1, none⟩ = some (.int .i64 a.1.2.1) := by rw [cell_of_row _ _ 1 _ _ _ ra]; rfl
  have j2 : w3.cell? ⟨w1.heap.size, 2, none⟩ = some (.int .i64 a.1.2.2) := by rw [cell_of_row _ _ 2 _ _ _ ra]; rfl
  have t0 : w3.cell? ⟨w.heap.size, 0, none⟩ = some (.int .i64 0) := by rw [cell_of_row _ _ 0 _ _ _ rb]; rfl
  have t1 : w3.cell? ⟨w.heap.size, 1, none⟩ = some (.int .i64 0) := by rw [cell_of_row _ _ 1 _ _ _ rb]; rfl
  have t2 : w3.cell? ⟨w.heap.size, 2, none⟩ = some (.int .i64 0) := by rw [cell_of_row _ _ 2 _ _ _ rb]; rfl
  have v2 := frozen_of_row _ _ 2 _ _ rb
  have v0 := frozen_of_row _ _ 0 _ _ rb
  have v1 := frozen_of_row _ _ 1 _ _ rb
  have F4 : Hid (Fr HT B w (((w3.setCell ⟨w.heap.size, 0, none⟩ (.int .i64 a.1.1)).setCell ⟨w.heap.size, 1, none⟩ (.int .i64 a.1.2.1)).setCell ⟨w.heap.size, 2, none⟩ (.int .i64 a.1.2.2))) :=
    ((((P4.out.trans b4.out).setCell (p := ⟨w.heap.size, 0, none⟩) (Nat.le_of_lt hB) (.inl rfl) (fun h => absurd h (Nat.lt_irrefl _)) _).setCell (p := ⟨w.heap.size, 1, none⟩) (Nat.le_of_lt hB) (.inl rfl) (fun h => absurd h (Nat.lt_irrefl _)) _).setCell (p := ⟨w.heap.size, 2, none⟩) (Nat.le_of_lt hB) (.inl rfl) (fun h => absurd h (Nat.lt_irrefl _)) _)
  have T4 : Hid (St (((w3.setCell ⟨w.heap.size, 0, none⟩ (.int .i64 a.1.1)).setCell ⟨w.heap.size, 1, none⟩ (.int .i64 a.1.2.1)).setCell ⟨w.heap.size, 2, none⟩ (.int .i64 a.1.2.2)) B fn (popH less l) n) := by
    have tg : Tag w3 w.heap.size 66 := ⟨_, _, rb⟩
    have tg2 : ∀ {W : World} (_ : Tag W w.heap.size 66) (p : Addr) (u : Value), Tag (W.setCell p u) w.heap.size 66 := by
      intro W ⟨cs, f, h⟩ p u
      unfold Tag World.setCell
      rw [Array.getElem?_modify, h]
      split
      · exact ⟨_, _, rfl⟩
      · exact ⟨_, _, rfl⟩
    exact St.store (T := 66) (St.store (T := 66) (St.store S3.out tg not_ht _) (tg2 tg _ _) not_ht _) (tg2 (tg2 tg _ _) _ _) not_ht _
  clear b3 s3 b4 ra rb CUT RA RB q1 u1 e0 e1 e2 e3 e4 e5 k0 k1 k2 z0 z1 z2 z3 i0 i1 i2 i3
  go_wp2_with fail
  exact bodyPost_ret (v := .tuple #[.agg #[.int .i64 a.1.1, .int .i64 a.1.2.1, .int .i64 a.1.2.2], .bool true]) (by simp [results, Try.results39, go_sem, t0, t1, t2]) rfl ⟨rfl, T4.out, F4.out⟩
end Go.Proofs.Ytahbgafjljfndaa
