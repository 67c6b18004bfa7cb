/-
  Len, Peek, Pop of a heap of strings. Condition: at most 2^20 elements.
-/
import Derived.Test.YtnmomkldlajimaaSDn
namespace Go.Proofs.Ytnmomkldlajimaa.S
open Go.RowKit

theorem len_any {fn : Value} (B n : Nat) (l : List (Pr × Nat)) (w : World) (h : St w B fn l n) : Calls Try.prog 52 #[.pointer (some ⟨B, 0, none⟩)] w fun e w' => e = .returned (.int .i64 ((l.length : Nat) : Int)) ∧ w = w' := by
  obtain ⟨A, c, m1⟩ := h.slice
  clear h
  go_enter Try.func52, Try.ntmps52
  go_wp2_with fail
  go_ret
  exact ⟨rfl, rfl⟩
theorem peek_no {fn : Value} (B n : Nat) (w : World) (h : St w B fn [] n) : Calls Try.prog 50 #[.pointer (some ⟨B, 0, none⟩)] w fun e w' => e = .returned (.tuple #[.string ByteArray.empty, .bool false]) ∧ Below w.heap.size w w' := by
  have C := Lib.hid (len_any B n [] w h)
  clear h
  go_enter Try.func50, Try.ntmps50
  go_wp2_with fail
  refine C.out.mono ?_
  rintro e w' ⟨rfl, rfl⟩
  go_wp2_with fail
  go_ret2
  exact ⟨rfl, (Below.refl _ _).alloc (Nat.le_refl _) _⟩
theorem peek_yes {fn : Value} (B n : Nat) (l : List (Pr × Nat)) (a : Pr × Nat) (ha : l[0]? = some a) (hl : l.length ≤ 1048576) (w : World) (h : St w B fn l n) : Calls Try.prog 50 #[.pointer (some ⟨B, 0, none⟩)] w fun e w' => e = .returned (.tuple #[.string a.1, .bool true]) ∧ Below w.heap.size w w' := by
  have C := Lib.hid (len_any B n l _ h)
  obtain ⟨v, m0, m1, m2, -, -, -, o⟩ := h.cells
  have hi := (List.getElem?_eq_some_iff.1 ha).1
  rcases o.low with ⟨-, rfl⟩ | ⟨g, c, rfl, g0, g1, hc⟩
  · simp at hi
  obtain ⟨x0, x1, -⟩ := OwnE.at o ha
  simp at x0
  have gk : ¬ (l.length : Int) = 0 := by omega
  have g2 : (0 : Int) < (l.length : Int) := by omega
  clear h m0 m2 x1 o ha
  go_enter Try.func50, Try.ntmps50
  go_wp2_with fail
  refine C.out.mono ?_
  rintro e w' ⟨rfl, rfl⟩
  go_wp2_with fail
  go_ret2
  exact ⟨rfl, Below.refl _ _⟩
/-- The last element is laid upon the first one. -/
theorem pop_mid {B : Nat} {l : List (Pr × Nat)} (b : Pr × Nat) (w : World) (g c : Nat) (hl : 0 < l.length) (hg : B < g) (o : OwnE w (B + 1) (.slice (some ⟨g, 0, none⟩) l.length c) l) :
    OwnE ((w.setCell ⟨g, 0, none⟩ (.string b.1)).setCell ⟨g, 1, none⟩ (.int .u64 (b.2 : Int))).drew (B + 1) (.slice (some ⟨g, 0, none⟩) (l.set 0 b).length c) (l.set 0 b) ∧
    (∀ k, k ≠ g → ((w.setCell ⟨g, 0, none⟩ (.string b.1)).setCell ⟨g, 1, none⟩ (.int .u64 (b.2 : Int))).drew.heap[k]? = w.heap[k]?) ∧
    Fr HT B w ((w.setCell ⟨g, 0, none⟩ (.string b.1)).setCell ⟨g, 1, none⟩ (.int .u64 (b.2 : Int))).drew := by
  have hl1 : (l.set 0 b).length = l.length := List.length_set
  have h1 : OwnE (put3 w g 0 b) (B + 1) (.slice (some ⟨g, 0, none⟩) (l.set 0 b).length c) (l.set 0 b) := by
    rw [hl1]
    have := OwnE.put o (i := 0) hl b
    rw [Nat.zero_mul] at this
    exact this
  have K : OwnE (put3 w g 0 b).drew (B + 1) (.slice (some ⟨g, 0, none⟩) (l.set 0 b).length c) (l.set 0 b) ∧ (∀ k, k ≠ g → (put3 w g 0 b).drew.heap[k]? = w.heap[k]?) ∧ Fr HT B w (put3 w g 0 b).drew :=
    ⟨h1.below (Below.refl _ _).drew, fun k hk => put3_block w g 0 b k hk, (put3_fr (by omega) o.tag _ _).drew⟩
  unfold put3 at K
  exact K
/-- The last place is given up. -/
theorem cut_st {fn : Value} {B n m : Nat} {l : List (Pr × Nat)} (b : Pr × Nat) (hm : l.length - 1 = m) (hb : l[m]? = some b) (ho : ∀ e ∈ l, Ok2 e.1) (w : World) (g c : Nat) (v : Value) (hg : B < g) (hv : w.heap[B]? = some (.cells #[fn, v, .int .u64 (n : Int)] 75 (0, 0))) (o : OwnE w (B + 1) (.slice (some ⟨g, 0, none⟩) (l.set 0 b).length c) (l.set 0 b)) :
    St (((w.setCell ⟨g, m * 2, none⟩ (.string ByteArray.empty)).setCell ⟨g, m * 2 + 1, none⟩ (.int .u64 0)).setCell ⟨B, 1, none⟩ (.slice (some ⟨g, 0, none⟩) m c)) B fn (cutH l) n ∧
    Fr HT B w (((w.setCell ⟨g, m * 2, none⟩ (.string ByteArray.empty)).setCell ⟨g, m * 2 + 1, none⟩ (.int .u64 0)).setCell ⟨B, 1, none⟩ (.slice (some ⟨g, 0, none⟩) m c)) := by
  subst hm
  have hj := (List.getElem?_eq_some_iff.1 hb).1
  obtain ⟨a, ha⟩ := at_lt (l := l) (k := 0) (by omega)
  have e : cutH l = ((l.set 0 b).set (l.length - 1) (ByteArray.empty, 0)).take (l.length - 1) := by
    unfold cutH
    rw [swp_eq ha hb]
    apply List.ext_getElem?
    intro k
    rw [List.getElem?_take, List.getElem?_take]
    by_cases hk : k < l.length - 1
    · rw [if_pos hk, if_pos hk, List.getElem?_set_ne (i := l.length - 1) (by omega), List.getElem?_set_ne (i := l.length - 1) (by omega)]
    · rw [if_neg hk, if_neg hk]
  have hb1 : Fr HT B w (put3 w g ((l.length - 1) * 2) (ByteArray.empty, 0)) := put3_fr (by omega) o.tag _ _
  have K : St ((put3 w g ((l.length - 1) * 2) (ByteArray.empty, 0)).setCell ⟨B, 1, none⟩ (.slice (some ⟨g, 0, none⟩) (l.length - 1) c)) B fn (cutH l) n ∧ Fr HT B w ((put3 w g ((l.length - 1) * 2) (ByteArray.empty, 0)).setCell ⟨B, 1, none⟩ (.slice (some ⟨g, 0, none⟩) (l.length - 1) c)) := by
    refine ⟨⟨fun x hx => ?_, .slice (some ⟨g, 0, none⟩) (l.length - 1) c, ?_, ?_⟩, hb1.setCell (Nat.le_refl _) (.inl rfl) (fun _ => ⟨_, _, hv⟩) _⟩
    · have := cut_perm l a ha
      exact ho x (this.symm.subset (List.mem_cons_of_mem _ hx))
    · have hw : (put3 w g ((l.length - 1) * 2) (ByteArray.empty, 0)).heap[B]? = some (.cells #[fn, v, .int .u64 (n : Int)] 75 (0, 0)) := by
        rw [put3_block _ _ _ _ _ (by omega), hv]
      rw [heap_setCell_same _ _ _ _ _ _ hw]
      rfl
    · have hl1 : (l.set 0 b).length = l.length := List.length_set
      have h2 := OwnE.put o (i := l.length - 1) (by rw [hl1]; exact hj) (ByteArray.empty, 0)
      rw [hl1] at h2
      have h3 := OwnG.part ec_len (by rw [List.length_set, hl1]) h2 (l.length - 1) (by omega)
      rw [e]
      exact ownsRow_setCell_below h3 (Nat.lt_succ_self B) _
  unfold put3 at K
  exact K
/-- h.elements[:m]. -/
theorem part_run (g m L c : Nat) (hm : m ≤ L) (hL : L ≤ c) (W : World) : (Instr.slice 73 (.slice (some ⟨g, 0, none⟩) L c) none (some (.int .i64 (m : Int))) none).run Try.prog W = .ok (.slice (some ⟨g, 0, none⟩) m c) W := by
  have he : Try.prog.elem 73 = 77 := by simp [Program.elem, Try.underlying73]
  have hu : Try.prog.underlying 73 = some (.slice (Try.prog.elem 73)) := by rw [he]; exact Try.underlying73
  rw [run_slice_h W 73 _ L c hu .i64 m (by omega) (by omega), he, Try.sizeOf77]
  simp [sliced, Result.andThen, Addr.add_lit]
set_option maxRecDepth 100000 in
set_option maxHeartbeats 4000000 in
theorem pop_yes {fn : Value} {less : Pr → Pr → Bool} (hf : Fun fn less) (B n : Nat) (l : List (Pr × Nat)) (a : Pr × Nat) (ha : l[0]? = some a) (hl : l.length ≤ 1048576) (w : World) (h : St w B fn l n) :
    Calls Try.prog 47 #[.pointer (some ⟨B, 0, none⟩)] w fun e w' => e = .returned (.tuple #[.string a.1, .bool true]) ∧ St w' B fn (popH less l) n ∧ Fr HT B w w' := by
  have hi := (List.getElem?_eq_some_iff.1 ha).1
  obtain ⟨b, hb⟩ := at_lt (l := l) (k := l.length - 1) (by omega)
  have H := Lib.hid h
  have C := Lib.hid (peek_yes (fn := fn) B n l a ha hl w h)
  have HB := Lib.hid hb
  have HF := Lib.hid hf
  have hB := h.lt
  have hlx : ((l.length : Nat) : Int) - 1 = ((l.length - 1 : Nat) : Int) := by omega
  clear h ha hb hf
  obtain ⟨m, hm⟩ : ∃ m, l.length - 1 = m := ⟨_, rfl⟩
  rw [hm] at hlx HB
  have HM := Lib.hid hm
  have hml : m < l.length := by omega
  clear hm
  go_enter Try.func47, Try.ntmps47
  go_wp2_with fail
  refine C.out.mono ?_
  rintro e w1 ⟨rfl, b1⟩
  have S1 := Lib.hid (H.out.below b1)
  have W1 : Hid (Below w.heap.size w w1) := b1
  obtain ⟨v, -, m1, -, -, r1, -, o⟩ := S1.out.cells
  rcases o.low with ⟨-, hnil⟩ | ⟨g, c, rfl, g0, g1, hc⟩
  · rw [hnil] at hi; simp at hi
  obtain ⟨y0, y1, s0, s1⟩ := OwnE.at o HB.out
  obtain ⟨a', ha'⟩ := at_lt hi
  obtain ⟨x0, x1, t0, t1⟩ := OwnE.at o ha'
  simp only [Nat.zero_mul, Nat.zero_add] at x0 x1 t0 t1
  have O1 := Lib.hid o
  have hml' : (m : Int) < (l.length : Int) := by omega
  have hB1 : B < w1.heap.size := by omega
  clear b1 o C H ha'
  go_wp2_with fail
  go_region
  obtain ⟨p1, p2, p4⟩ := pop_mid b w1 g c hi (by omega) O1.out
  generalize ((w1.setCell ⟨g, 0, none⟩ (.string b.1)).setCell ⟨g, 1, none⟩ (.int .u64 (b.2 : Int))).drew = w2 at p1 p2 p4 ⊢
  have q1 := (World.cell?_of_block (w := w1) (a := ⟨B, 1, none⟩) (p2 B (by omega))).trans m1
  have u1 := (World.frozen?_of_block (w := w1) (a := ⟨B, 1, none⟩) (p2 B (by omega))).trans r1
  have hs1 : (l.set 0 b).length = l.length := List.length_set
  obtain ⟨b', hb'⟩ := at_lt (l := l.set 0 b) (k := m) (by omega)
  obtain ⟨z0, z1, i0, i1⟩ := OwnE.at p1 hb'
  obtain ⟨vv, hvv, _⟩ := S1.out.2
  have CUT := Lib.hid (cut_st b HM.out HB.out S1.out.1 w2 g c vv (by omega) ((p2 B (by omega)).trans hvv) p1)
  have P4 := Lib.hid (show Fr HT B w w2 from (Below.fr W1.out).trans p4)
  have PR := part_run g m l.length c (by omega) hc
  clear x0 x1 y0 y1 s0 s1 t0 t1 m1 r1 O1 p1 p2 p4 hb' hvv S1 hs1
  go_wp2_with fail
  refine (lower_top HF.out B n (cutH l) (by rw [cut_len]; omega) _ CUT.out.1).mono ?_
  rintro e w3 ⟨rfl, s3, b3⟩
  have R : Hid (St w3 B fn (popH less l) n ∧ Fr HT B w w3) := ⟨s3, P4.out.trans (CUT.out.2.trans b3)⟩
  clear s3 b3 CUT P4 q1 u1 z0 z1 i0 i1
  go_wp2_with fail
  go_ret2
  exact ⟨rfl, R.out⟩
theorem pop_no {fn : Value} (B n : Nat) (w : World) (h : St w B fn [] n) : Calls Try.prog 47 #[.pointer (some ⟨B, 0, none⟩)] w fun e w' => e = .returned (.tuple #[.string ByteArray.empty, .bool false]) ∧ Below w.heap.size w w' := by
  have C := Lib.hid (peek_no B n w h)
  clear h
  go_enter Try.func47, Try.ntmps47
  go_wp2_with fail
  refine (C.out).mono ?_
  rintro e w1 ⟨rfl, b1⟩
  go_wp2_with fail
  go_ret2
  exact ⟨rfl, b1⟩
end Go.Proofs.Ytnmomkldlajimaa.S
