/-
  The law's own helper that makes a table and changes the list afterwards: what it answers; nothing that existed before the call has changed behind it. Condition: at most 60 strings of at most 2^10 bytes each.
-/
import Derived.Test.YtfmajfmimgcfnaaIRPre
namespace Go.Proofs.Ytfmajfmimgcfnaa
open Go.RowKit

/-- The second world is the first but for the cells of block g, of which n are there and may be written. -/
def Rowed (w3 wr : World) (g n : Nat) : Prop := Below g w3 wr ∧ (∀ k, k ≠ g → wr.heap[k]? = w3.heap[k]?) ∧ wr.heap.size = w3.heap.size ∧ ∀ q, q < n → (∃ u, wr.cell? ⟨g, q, none⟩ = some u) ∧ wr.frozen? ⟨g, q, none⟩ = false
theorem Rowed.step {w3 wr : World} {g n q : Nat} (h : Rowed w3 wr g n) (hq : q < n) (u : Value) : Rowed w3 (wr.setCell ⟨g, q, none⟩ u) g n := by
  obtain ⟨h1, h2, h3, h4⟩ := h
  refine ⟨h1.setCell (Nat.le_refl _) _, fun k hk => ?_, by simpa [World.setCell] using h3, fun j hj => ?_⟩
  · exact (RowKit.Below.heap_setCell wr ⟨g, q, none⟩ u k hk).trans (h2 k hk)
  · obtain ⟨⟨x, hx⟩, hf⟩ := h4 j hj
    refine ⟨?_, by rw [World.frozen?_setCell]; exact hf⟩
    by_cases hjq : j = q
    · subst hjq
      exact ⟨u, World.cell?_setCell_same wr _ u hx⟩
    · exact ⟨x, (World.cell?_setCell_other wr _ _ u (by intro e; cases e; exact hjq rfl)).trans hx⟩
theorem Rowed.start {w : World} {base g cap : Nat} {l : List (List UInt8)} (h : OwnS w base (.slice (some ⟨g, 0, none⟩) l.length cap) l) : Rowed w w g l.length := by
  refine ⟨Below.refl _ _, fun _ _ => rfl, rfl, fun q hq => ?_⟩
  rcases h.2 with ⟨h0, _⟩ | ⟨g', cap', cur, hv, _, hg, hn, _, hcs, _⟩
  · cases h0
  · cases hv
    refine ⟨⟨cur[q]'(by omega), ?_⟩, by simp [World.frozen?, hg]⟩
    rw [cell_of_row w g q cur _ _ hg, Array.getElem?_eq_getElem (by omega)]
theorem Rowed.tab {w3 wr : World} {g n base : Nat} {t : Value} {ls : List (List UInt8)} (h : Rowed w3 wr g n) (ht : Tab w3 base t ls) (hg : g < base) : Tab wr base t ls :=
  ht.keep (by rw [h.2.2.1]; exact Nat.le_refl _) fun k hk _ => h.2.1 k (by omega)
theorem uniq_zero : ∀ (f : Nat) (l : List (List UInt8)) (k : Nat), (uniqFrom l f k).2 = 0 → uniqFrom l f k = (0, 0)
  | 0, _, _, _ => rfl
  | f + 1, l, k, h => by
    unfold uniqFrom at h ⊢
    split
    · rfl
    · next x hx =>
      rw [hx] at h
      simp only [] at h
      split
      · next hv => rw [if_pos hv] at h; simp at h
      · next hv =>
        rw [if_neg hv] at h
        split
        · next hm => rw [if_pos hm] at h; simp at h
        · next hm =>
          rw [if_neg hm] at h
          exact uniq_zero f l (k + 1) h
set_option maxHeartbeats 4000000 in
theorem made_good (v : Value) (l : List (List UInt8)) (hl : l.length ≤ 1000) (hs : ∀ (j : Nat) x, l[j]? = some x → x.length ≤ 1048576) (hg : Good5 l) (w : World) (h : Lst w v l) : Calls Try.prog 20 #[v] w fun e w' => ∃ t, e = .returned (.tuple #[t, .bool true]) ∧ Tab w' w.heap.size t l ∧ Below w.heap.size w w' := by
  have H := Lib.hid h
  have U := Lib.hid (fun W (hW : Lst W v l) => runique_any v l hl hs W hW)
  have N := Lib.hid (fun (u : Value) W (hW : Lst W u l) => new_good u l hl hs hg W hW)
  have hz := uniq_zero _ l 0 hg
  change uniqR l = (0, 0) at hz
  rw [hz] at U
  clear h hs hz hg
  go_enter Try.func20, Try.ntmps20
  go_wp2_with (at_builtin; refine app_lst _ rfl (.tmp 11) (.tmp 12) rfl w.heap.size _ [] l rfl (OwnS.nil _ _) v rfl H.out (Nat.le_refl _) (by simp; omega) ?_; intro v1 w1 own1 b1; have O1 := Lib.hid (show OwnS w1 w.heap.size v1 l from own1); have B1 := Lib.hid b1; clear own1 b1)
  refine (N.out v1 w1 O1.out.lst).mono ?_
  rintro e w2 ⟨t, rfl, tab2, b2⟩
  have T2 := Lib.hid tab2
  have B2 := Lib.hid b2
  obtain ⟨tb, mb, nv, rfl, -⟩ := tab2
  clear b2 N
  go_wp2_with fail
  refine (U.out w2 (H.out.below (B1.out.trans (B2.out.mono B1.out.size)))).mono ?_
  rintro e3 w3 ⟨rfl, n, rfl⟩
  have D3 := Lib.hid (below_drewN (Below.refl w2.heap.size w2) n)
  have O3 := Lib.hid (own_below (own_below O1.out B2.out) D3.out)
  have T3 := Lib.hid (T2.out.below D3.out)
  clear T2
  generalize w2.drewN n = w3 at D3 O3 T3 ⊢
  have B3 : Hid (Below w.heap.size w w3) := (B1.out.trans (B2.out.mono B1.out.size)).trans (D3.out.mono (by have := B1.out.size; have := B2.out.size; omega))
  clear U H
  rcases O1.out.2 with ⟨rfl, h0⟩ | ⟨g, cap, cur, rfl, hbg, hg, hn, hm, hcs, ht⟩
  · have hl0 : l = [] := List.length_eq_zero_iff.1 h0
    subst hl0
    have T : Hid (Tab w3 w.heap.size (.pointer (some ⟨tb, 0, none⟩)) []) := T3.out.down (B1.out.size)
    have B := B3
    clear O1 O3 B1 B2 B3 D3 h0 T3
    go_wp2_with fail
    go_loopw [10] (fun j wr => j = .int .i64 0 ∧ wr = w3) (fun _ _ => 0)
    case atStart => exact ⟨rfl, rfl⟩
    case round =>
      obtain ⟨rfl, rfl⟩ := hrel
      go_wp2_with fail
      go_ret2
      exact ⟨_, rfl, T.out, B.out⟩
  · have hgl : g < w1.heap.size := (Array.getElem?_eq_some_iff.1 hg).1
    have R0 := Lib.hid (Rowed.start O3.out)
    clear hg hn hm hcs ht
    go_wp2_with fail
    go_loopw [10] (fun j wr => ∃ k : Nat, j = .int .i64 k ∧ k ≤ l.length ∧ Hid (Rowed w3 wr g l.length)) (fun j _ => l.length - (intOf j).toNat)
    case atStart => exact ⟨0, rfl, Nat.zero_le _, R0⟩
    case round =>
      obtain ⟨k, rfl, hk, hr⟩ := hrel
      by_cases hlt : k < l.length
      · obtain ⟨⟨x, hx⟩, hf⟩ := hr.out.2.2.2 k hlt
        have gk : (k : Int) < (l.length : Int) := by omega
        have R1 : Hid (∀ u, Rowed w3 (wr.setCell ⟨g, k, none⟩ u) g l.length) := fun u => hr.out.step hlt u
        clear hr
        go_wp2_with fail
        go_roundw
        case rel => exact ⟨k + 1, by go_num, by omega, Lib.hid (R1.out _)⟩
        case measure => simp [intOf]; omega
      · have d : decide (k < l.length) = false := by rw [decide_eq_false_iff_not]; exact hlt
        have T : Hid (Tab wr w.heap.size (.pointer (some ⟨tb, 0, none⟩)) l) := (hr.out.tab T3.out hgl).down B1.out.size
        have B : Hid (Below w.heap.size w wr) := B3.out.trans (hr.out.1.mono hbg)
        clear hr R0 O1 O3 B1 B2 B3 D3 T3 hlt
        go_wp2_with fail
        go_ret2
        exact ⟨_, rfl, T.out, B.out⟩
set_option maxHeartbeats 4000000 in
theorem made_bad (v : Value) (l : List (List UInt8)) (hl : l.length ≤ 1000) (hs : ∀ (j : Nat) x, l[j]? = some x → x.length ≤ 1048576) (hg : ¬ Good5 l) (w : World) (h : Lst w v l) : Calls Try.prog 20 #[v] w fun e w' => e = .returned (.tuple #[.pointer none, .bool true]) ∧ Below w.heap.size w w' := by
  have H := Lib.hid h
  have U := Lib.hid (fun W (hW : Lst W v l) => runique_any v l hl hs W hW)
  have N := Lib.hid (fun (u : Value) W (hW : Lst W u l) => new_bad u l hl hs hg W hW)
  unfold Good5 at hg
  generalize (uniqR l).1 = i at U N
  generalize (uniqR l).2 = e at U N hg
  have ge : (e == 0) = false := beq_false hg
  have ge1 : (e == e) = true := beq_true rfl
  have ge2 : (i == i) = true := beq_true rfl
  clear h hs hg
  go_enter Try.func20, Try.ntmps20
  go_wp2_with (at_builtin; refine app_lst _ rfl (.tmp 11) (.tmp 12) rfl w.heap.size _ [] l rfl (OwnS.nil _ _) v rfl H.out (Nat.le_refl _) (by simp; omega) ?_; intro v1 w1 own1 b1; have O1 := Lib.hid (show OwnS w1 w.heap.size v1 l from own1); have B1 := Lib.hid b1; clear own1 b1)
  refine (N.out v1 w1 O1.out.lst).mono ?_
  rintro e' w2 ⟨rfl, b2⟩
  have B2 := Lib.hid b2
  clear b2 N
  go_wp2_with fail
  refine (U.out w2 (H.out.below (B1.out.trans (B2.out.mono B1.out.size)))).mono ?_
  rintro e3 w3 ⟨rfl, n, rfl⟩
  have D3 := Lib.hid (below_drewN (Below.refl w2.heap.size w2) n)
  have O3 := Lib.hid (own_below (own_below O1.out B2.out) D3.out)
  generalize w2.drewN n = w3 at D3 O3 ⊢
  have B3 : Hid (Below w.heap.size w w3) := (B1.out.trans (B2.out.mono B1.out.size)).trans (D3.out.mono (by have := B1.out.size; have := B2.out.size; omega))
  clear U H
  rcases O1.out.2 with ⟨rfl, h0⟩ | ⟨g, cap, cur, rfl, hbg, hg, hn, hm, hcs, ht⟩
  · have hl0 : l = [] := List.length_eq_zero_iff.1 h0
    subst hl0
    have B := B3
    clear O1 O3 B1 B2 B3 D3 h0
    go_wp2_with fail
    go_loopw [10] (fun j wr => j = .int .i64 0 ∧ wr = w3) (fun _ _ => 0)
    case atStart => exact ⟨rfl, rfl⟩
    case round =>
      obtain ⟨rfl, rfl⟩ := hrel
      go_wp2_with fail
      go_ret2
      exact ⟨rfl, B.out⟩
  · have hgl : g < w1.heap.size := (Array.getElem?_eq_some_iff.1 hg).1
    have R0 := Lib.hid (Rowed.start O3.out)
    clear hg hn hm hcs ht
    go_wp2_with fail
    go_loopw [10] (fun j wr => ∃ k : Nat, j = .int .i64 k ∧ k ≤ l.length ∧ Hid (Rowed w3 wr g l.length)) (fun j _ => l.length - (intOf j).toNat)
    case atStart => exact ⟨0, rfl, Nat.zero_le _, R0⟩
    case round =>
      obtain ⟨k, rfl, hk, hr⟩ := hrel
      by_cases hlt : k < l.length
      · obtain ⟨⟨x, hx⟩, hf⟩ := hr.out.2.2.2 k hlt
        have gk : (k : Int) < (l.length : Int) := by omega
        have R1 : Hid (∀ u, Rowed w3 (wr.setCell ⟨g, k, none⟩ u) g l.length) := fun u => hr.out.step hlt u
        clear hr
        go_wp2_with fail
        go_roundw
        case rel => exact ⟨k + 1, by go_num, by omega, Lib.hid (R1.out _)⟩
        case measure => simp [intOf]; omega
      · have d : decide (k < l.length) = false := by rw [decide_eq_false_iff_not]; exact hlt
        have B : Hid (Below w.heap.size w wr) := B3.out.trans (hr.out.1.mono hbg)
        clear hr R0 O1 O3 B1 B2 B3 D3 hlt
        go_wp2_with fail
        go_ret2
        exact ⟨rfl, B.out⟩
end Go.Proofs.Ytfmajfmimgcfnaa
