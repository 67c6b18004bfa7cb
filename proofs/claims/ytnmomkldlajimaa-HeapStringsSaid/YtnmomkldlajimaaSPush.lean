/-
  Push and New of a heap of strings. Condition: at most 2^20 elements.
-/
import Derived.Test.YtnmomkldlajimaaSPop
import Derived.Test.YtnmomkldlajimaaHPush
import Derived.Deep.RegionLaw
namespace Go.Proofs.Ytnmomkldlajimaa.S
open Go.RowKit

theorem push_st {fn : Value} {B n : Nat} {l : List (Pr × Nat)} (x : Pr) (ho : ∀ e ∈ l, Ok2 e.1) (w : World) (v v1 : Value) (hv : w.heap[B]? = some (.cells #[fn, v, .int .u64 (n : Int)] 75 (0, 0))) (o : OwnE w (B + 1) v1 (l ++ [(x, n)])) :
    St ((w.setCell ⟨B, 1, none⟩ v1).setCell ⟨B, 2, none⟩ (.int .u64 ((n : Int) + 1))) B fn (l ++ [(x, n)]) (n + 1) ∧ Fr HT B w ((w.setCell ⟨B, 1, none⟩ v1).setCell ⟨B, 2, none⟩ (.int .u64 ((n : Int) + 1))) := by
  have t : Tag w B 75 := ⟨_, _, hv⟩
  have h1 := heap_setCell_same w B 1 _ _ v1 hv
  have h2 := heap_setCell_same (w.setCell ⟨B, 1, none⟩ v1) B 2 _ _ (.int .u64 ((n : Int) + 1)) h1
  refine ⟨⟨fun e he => ?_, v1, ?_, ?_⟩, ((Fr.refl HT B w).setCell (Nat.le_refl _) (.inl rfl) (fun _ => t) _).setCell (Nat.le_refl _) (.inl rfl) (fun _ => t) _⟩
  · rcases List.mem_append.1 he with he | he
    · exact ho e he
    · exact trivial
  · rw [h2]
    simp
  · exact ownsRow_setCell_below (ownsRow_setCell_below o (Nat.lt_succ_self B) _) (Nat.lt_succ_self B) _
set_option maxRecDepth 100000 in
set_option maxHeartbeats 4000000 in
theorem push_any {fn : Value} {less : Pr → Pr → Bool} (hf : Fun fn less) (B n : Nat) (l : List (Pr × Nat)) (x : Pr) (hl : l.length ≤ 1000000) (hn : n ≤ 1000000) (w : World) (h : St w B fn l n) :
    Calls Try.prog 40 #[.pointer (some ⟨B, 0, none⟩), .string x] w fun e w' => e = .returned (.tuple #[]) ∧ St w' B fn (pushH less l n x) (n + 1) ∧ Fr HT B w w' := by
  have HF := Lib.hid hf
  have hB0 := h.lt
  obtain ⟨v, m0, m1, m2, r0, r1, r2, o⟩ := h.cells
  obtain ⟨A, c, rfl, hc⟩ := ownK_shape o
  have HO := Lib.hid o
  have H0 := Lib.hid h
  have M2 := Lib.hid m2
  have R1 := Lib.hid r1
  have R2 := Lib.hid r2
  have M1 := Lib.hid m1
  clear o h hc m0 r0 r1 r2 hf
  go_enter Try.func40, Try.ntmps40
  go_wp2_with fail
  go_region_law (first | (refine stepG_one ec_len ec_one (by decide) Try.underlying73 info_el rfl (by decide) _ rfl _ _ rfl (B + 1) _ l (x, n) rfl (World.ownsRow.alloc HO.out _) w.heap.size _ (heap_alloc_new _ _) rfl rfl (by simp; omega) (by omega) ?_
                          intro v1 w1 own1 b1 gr1
                          obtain ⟨-, hnil⟩ | ⟨g, c1, rfl, g0, g1, hc1⟩ := OwnG.low own1
                          · simp at hnil
                          have q1 : w1.cell? ⟨B, 1, none⟩ = some (.slice A l.length c) := (b1.cell (p := ⟨B, 1, none⟩) (Nat.lt_succ_self B)).trans ((World.cell?_alloc_past _ _ _ (by exact hB0)).trans M1.out)
                          have u1 : w1.frozen? ⟨B, 1, none⟩ = false := (b1.frozen (p := ⟨B, 1, none⟩) (Nat.lt_succ_self B)).trans ((World.frozen?_alloc_past _ _ _ (by exact hB0)).trans R1.out)
                          have q2 : w1.cell? ⟨B, 2, none⟩ = some (.int .u64 (n : Int)) := (b1.cell (p := ⟨B, 2, none⟩) (Nat.lt_succ_self B)).trans ((World.cell?_alloc_past _ _ _ (by exact hB0)).trans M2.out)
                          have u2 : w1.frozen? ⟨B, 2, none⟩ = false := (b1.frozen (p := ⟨B, 2, none⟩) (Nat.lt_succ_self B)).trans ((World.frozen?_alloc_past _ _ _ (by exact hB0)).trans R2.out)
                          have F1 : Hid (Fr HT B w w1) := (((Fr.refl HT B w).alloc _).drew).grown (World.ownsRow.alloc HO.out _) (Nat.le_succ B) (.inr rfl) gr1
                          have X1 : Hid (w1.heap[B]? = w.heap[B]?) := (b1.block B (Nat.lt_succ_self B)).trans (Go.heap_alloc_old w _ hB0)
                          have O1 := Lib.hid own1
                          clear b1 gr1 own1 m1 m2))
  all_goals
    have K : Hid (St ((w1.setCell ⟨B, 1, none⟩ (.slice (some ⟨g, 0, none⟩) (l.length + 1) c1)).setCell ⟨B, 2, none⟩ (.int .u64 ((n : Int) + 1))) B fn (l ++ [(x, n)]) (n + 1) ∧ Fr HT B w ((w1.setCell ⟨B, 1, none⟩ (.slice (some ⟨g, 0, none⟩) (l.length + 1) c1)).setCell ⟨B, 2, none⟩ (.int .u64 ((n : Int) + 1)))) := by
      obtain ⟨hok, vv, hvv, _⟩ := H0.out
      have O2 := O1.out
      simp only [List.length_append, List.length_cons, List.length_nil, Nat.zero_add] at O2
      have K := push_st x hok w1 vv _ (X1.out.trans hvv) O2
      exact ⟨K.1, F1.out.trans K.2⟩
    clear F1 X1 O1
    go_wp2_with fail
    refine (raise_any HF.out B (n + 1) (l ++ [(x, n)]) l.length (by simp) (by simp; omega) _ K.out.1).mono ?_
    rintro e w2 ⟨rfl, s2, f2⟩
    have S2 := Lib.hid s2
    have F2 := Lib.hid (K.out.2.trans f2)
    clear s2 f2 K q1 q2 u1 u2
    go_wp2_with fail
    go_end0
    exact ⟨rfl, S2.out, F2.out⟩
theorem new_any {fn : Value} {less : Pr → Pr → Bool} (hf : Fun fn less) (w : World) :
    Calls Try.prog 39 #[fn] w fun e w' => e = .returned (.pointer (some ⟨w.heap.size, 0, none⟩)) ∧ St w' w.heap.size fn [] 0 ∧ Below w.heap.size w w' := by
  obtain ⟨K, rfl, -, -⟩ := hf
  have FN := fun W => fn_not_nil 48 (.func K) #[] #[] Try.underlying48 W
  go_enter Try.func39, Try.ntmps39
  go_wp2_with fail
  go_ret
  refine ⟨rfl, ⟨(fun e he => by cases he), .slice none 0 0, heap_alloc_new _ _, OwnG.nil _ _ _ _ _⟩, (Below.refl _ _).alloc (Nat.le_refl _) _⟩
end Go.Proofs.Ytnmomkldlajimaa.S
