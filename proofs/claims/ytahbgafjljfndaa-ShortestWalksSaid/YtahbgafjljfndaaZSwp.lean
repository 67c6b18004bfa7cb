/-
  Two elements of a heap exchanged. Condition: none beyond each theorem's own hypotheses.
-/
import Derived.Test.YtahbgafjljfndaaZSt
import Derived.BigRegion
namespace Go.Proofs.Ytahbgafjljfndaa
open Go.RowKit

theorem els_set (l : List (Pr × Nat)) (i : Nat) (b : Pr × Nat) (hi : i < l.length) : ((((fl ec l).set (i * 4) (.int .i64 b.1.1)).set (i * 4 + 1) (.int .i64 b.1.2.1)).set (i * 4 + 2) (.int .i64 b.1.2.2)).set (i * 4 + 3) (.int .u64 (b.2 : Int)) = fl ec (l.set i b) := by
  induction l generalizing i with
  | nil => simp at hi
  | cons a r ih =>
    cases i with
    | zero =>
      rw [fl_cons, List.set_cons_zero, fl_cons]
      rfl
    | succ i =>
      rw [List.set_cons_succ, fl_cons, fl_cons, ← ih i (by simpa using hi)]
      rw [show (i + 1) * 4 = i * 4 + 1 + 1 + 1 + 1 by omega, show i * 4 + 1 + 1 + 1 + 1 + 1 = (i * 4 + 1) + 1 + 1 + 1 + 1 by omega, show i * 4 + 1 + 1 + 1 + 1 + 2 = (i * 4 + 2) + 1 + 1 + 1 + 1 by omega, show i * 4 + 1 + 1 + 1 + 1 + 3 = (i * 4 + 3) + 1 + 1 + 1 + 1 by omega]
      rfl
/-- Three cells stored. -/
def put3 (w : World) (g o : Nat) (b : Pr × Nat) : World := (((w.setCell ⟨g, o, none⟩ (.int .i64 b.1.1)).setCell ⟨g, o + 1, none⟩ (.int .i64 b.1.2.1)).setCell ⟨g, o + 2, none⟩ (.int .i64 b.1.2.2)).setCell ⟨g, o + 3, none⟩ (.int .u64 (b.2 : Int))
theorem OwnE.put {w : World} {base g c : Nat} {l : List (Pr × Nat)} (h : OwnE w base (.slice (some ⟨g, 0, none⟩) l.length c) l) {i : Nat} (hi : i < l.length) (b : Pr × Nat) : OwnE (put3 w g (i * 4) b) base (.slice (some ⟨g, 0, none⟩) l.length c) (l.set i b) := by
  have h1 := (World.ownsRow.stored h (i * 4) (.int .i64 b.1.1)).1
  have h2 := (World.ownsRow.stored h1 (i * 4 + 1) (.int .i64 b.1.2.1)).1
  have h3' := (World.ownsRow.stored h2 (i * 4 + 2) (.int .i64 b.1.2.2)).1
  have h3 := (World.ownsRow.stored h3' (i * 4 + 3) (.int .u64 (b.2 : Int))).1
  rw [els_set l i b hi] at h3
  show World.ownsRow _ base _ 4 _ (l.set i b).length (fl ec (l.set i b))
  rw [List.length_set]
  exact h3
theorem put3_block (w : World) (g o : Nat) (b : Pr × Nat) (j : Nat) (hj : j ≠ g) : (put3 w g o b).heap[j]? = w.heap[j]? := by
  unfold put3
  rw [RowKit.Below.heap_setCell _ _ _ _ hj, RowKit.Below.heap_setCell _ _ _ _ hj, RowKit.Below.heap_setCell _ _ _ _ hj, RowKit.Below.heap_setCell _ _ _ _ hj]
theorem put3_fr {w : World} {B g : Nat} (hg : B ≤ g) (ht : Tag w g 79) (o : Nat) (b : Pr × Nat) : Fr HT B w (put3 w g o b) :=
  ((((Fr.refl HT B w).setCell hg (.inr rfl) (fun _ => ht) _).setCell hg (.inr rfl) (fun _ => ht) _).setCell hg (.inr rfl) (fun _ => ht) _).setCell hg (.inr rfl) (fun _ => ht) _
theorem put3_tag {w : World} {g : Nat} {T : TypeId} (ht : Tag w g T) (o : Nat) (b : Pr × Nat) : Tag (put3 w g o b) g T := by
  have one : ∀ {w : World} (_ : Tag w g T) (p : Addr) (u : Value), Tag (w.setCell p u) g T := by
    intro w ⟨cs, f, h⟩ p u
    unfold Tag World.setCell
    rw [Array.getElem?_modify, h]
    split
    · exact ⟨_, _, rfl⟩
    · exact ⟨_, _, rfl⟩
  exact one (one (one (one ht _ _) _ _) _ _) _ _
theorem St.drew {w : World} {B : Nat} {fn : Value} {l : List (Pr × Nat)} {n : Nat} (h : St w B fn l n) : St w.drew B fn l n := h.below (Below.refl _ _).drew
theorem swap_st {fn : Value} {B n : Nat} {l : List (Pr × Nat)} (i j : Nat) (a b : Pr × Nat) (ha : l[i]? = some a) (hb : l[j]? = some b) (w : World) (g c : Nat) (m1 : w.cell? ⟨B, 1, none⟩ = some (.slice (some ⟨g, 0, none⟩) l.length c)) (hg : B < g) (h : St w B fn l n) (o : OwnE w (B + 1) (.slice (some ⟨g, 0, none⟩) l.length c) l) :
    St ((((((((w.setCell ⟨g, i * 4, none⟩ (.int .i64 b.1.1)).setCell ⟨g, i * 4 + 1, none⟩ (.int .i64 b.1.2.1)).setCell ⟨g, i * 4 + 2, none⟩ (.int .i64 b.1.2.2)).setCell ⟨g, i * 4 + 3, none⟩ (.int .u64 (b.2 : Int))).setCell ⟨g, j * 4, none⟩ (.int .i64 a.1.1)).setCell ⟨g, j * 4 + 1, none⟩ (.int .i64 a.1.2.1)).setCell ⟨g, j * 4 + 2, none⟩ (.int .i64 a.1.2.2)).setCell ⟨g, j * 4 + 3, none⟩ (.int .u64 (a.2 : Int))).drew B fn (swp l i j) n ∧
    Fr HT B w ((((((((w.setCell ⟨g, i * 4, none⟩ (.int .i64 b.1.1)).setCell ⟨g, i * 4 + 1, none⟩ (.int .i64 b.1.2.1)).setCell ⟨g, i * 4 + 2, none⟩ (.int .i64 b.1.2.2)).setCell ⟨g, i * 4 + 3, none⟩ (.int .u64 (b.2 : Int))).setCell ⟨g, j * 4, none⟩ (.int .i64 a.1.1)).setCell ⟨g, j * 4 + 1, none⟩ (.int .i64 a.1.2.1)).setCell ⟨g, j * 4 + 2, none⟩ (.int .i64 a.1.2.2)).setCell ⟨g, j * 4 + 3, none⟩ (.int .u64 (a.2 : Int))).drew := by
  have hi := (List.getElem?_eq_some_iff.1 ha).1
  have hj := (List.getElem?_eq_some_iff.1 hb).1
  have K : St (put3 (put3 w g (i * 4) b) g (j * 4) a) B fn (swp l i j) n ∧ Fr HT B w (put3 (put3 w g (i * 4) b) g (j * 4) a) := by
    rw [swp_eq ha hb]
    refine ⟨⟨fun e he => ?_, .slice (some ⟨g, 0, none⟩) l.length c, ?_, ?_⟩, (put3_fr (by omega) o.tag _ _).trans (put3_fr (by omega) (put3_tag o.tag _ _) _ _)⟩
    · rcases List.mem_or_eq_of_mem_set he with he | rfl
      · rcases List.mem_or_eq_of_mem_set he with he | rfl
        · exact h.1 e he
        · exact h.ok hb
      · exact h.ok ha
    · obtain ⟨v, hv, ho⟩ := h.2
      rw [put3_block _ _ _ _ _ (by omega), put3_block _ _ _ _ _ (by omega), hv]
      have m2 : w.cell? ⟨B, 1, none⟩ = some v := by rw [cell_of_row w B 1 _ _ _ hv]; rfl
      rw [m1] at m2
      cases m2
      rfl
    · have h1 := OwnE.put o hi b
      have hl1 : (l.set i b).length = l.length := List.length_set
      rw [← hl1] at h1
      have h2 := OwnE.put h1 (i := j) (by rw [hl1]; exact hj) a
      rw [hl1] at h2
      exact h2
  unfold put3 at K
  exact ⟨K.1.drew, K.2.drew⟩
set_option maxRecDepth 100000 in
set_option maxHeartbeats 4000000 in
theorem swap_any {fn : Value} (B n : Nat) (l : List (Pr × Nat)) (i j : Nat) (a b : Pr × Nat) (ha : l[i]? = some a) (hb : l[j]? = some b) (hij : i ≠ j) (hl : l.length ≤ 1048576) (w : World) (h : St w B fn l n) :
    Calls Try.prog 45 #[.pointer (some ⟨B, 0, none⟩), .int .i64 (i : Int), .int .i64 (j : Int)] w fun e w' => e = .returned (.tuple #[]) ∧ St w' B fn (swp l i j) n ∧ Fr HT B w w' := by
  have hi := (List.getElem?_eq_some_iff.1 ha).1
  have hj := (List.getElem?_eq_some_iff.1 hb).1
  obtain ⟨v, m0, m1, m2, -, -, -, o⟩ := h.cells
  rcases o.low with ⟨-, rfl⟩ | ⟨g, c, rfl, g0, g1, hc⟩
  · simp at hi
  obtain ⟨x0, x1, x2, x3, r0, r1, r2, r3⟩ := OwnE.at o ha
  obtain ⟨y0, y1, y2, y3, s0, s1, s2, s3⟩ := OwnE.at o hb
  have hi' : (i : Int) < (l.length : Int) := by omega
  have hj' : (j : Int) < (l.length : Int) := by omega
  have hB := h.lt
  have HA := Lib.hid ha
  have HB := Lib.hid hb
  have H := Lib.hid h
  have O := Lib.hid o
  clear h ha hb o m0 m2
  go_enter Try.func45, Try.ntmps45
  go_wp2_with fail
  go_region
  have K := Lib.hid (swap_st i j a b HA.out HB.out w g c m1 (by omega) H.out O.out)
  go_wp2_with fail
  go_end0
  exact ⟨rfl, K.out.1, K.out.2⟩
end Go.Proofs.Ytahbgafjljfndaa
