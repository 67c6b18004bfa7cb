/-
  membership: the function that it hands back says of every int whether it is in the set. Condition: lists of at most 1000000 spans.
-/
import Derived.Test.YtmlmdggfcdakhaaVNrm
namespace Go.Proofs.Ytmlmdggfcdakhaa
open Go.RowKit

/-- A function value that answers f at every int, wherever it is called behind w. -/
def Cond (w : World) (fv : Value) (f : Int → Bool) : Prop := ∃ K caps, fv = .func (.func K) #[] caps ∧ (∀ args W, (callFunc K args).run Try.prog W = .ok (.enter K args) W) ∧
  ∀ (x : Int) (W : World), Below w.heap.size w W → Calls Try.prog K (#[.int .i64 x] ++ caps) W fun e w' => e = .returned (.bool (f x)) ∧ Below W.heap.size W w'
theorem Cond.below {w w' : World} {fv : Value} {f : Int → Bool} (h : Cond w fv f) (hb : Below w.heap.size w w') : Cond w' fv f := by
  obtain ⟨K, caps, e, h1, h2⟩ := h
  exact ⟨K, caps, e, h1, fun x W hW => h2 x W (hb.trans (hW.mono hb.size))⟩
/-- Whether the span at i ends behind x. -/
def pS (N : List Sp) (x : Int) (i : Nat) : Bool := match N[i]? with
  | some s => decide (x < s.2)
  | none => false
theorem pS_at {N : List Sp} {x : Int} {i : Nat} {s : Sp} (h : N[i]? = some s) : pS N x i = decide (x < s.2) := by unfold pS; rw [h]
theorem pS_mono {N : List Sp} (hN : Nrm N) (x : Int) : ∀ a b, a ≤ b → b < N.length → pS N x a = true → pS N x b = true := by
  intro a b hab hb ha
  obtain ⟨s, hs⟩ := at_lt (show a < N.length by omega)
  obtain ⟨t, ht⟩ := at_lt hb
  rw [pS_at hs, decide_eq_true_iff] at ha
  rw [pS_at ht, decide_eq_true_iff]
  exact nrm_mono hN hab hs ht ha
theorem count_first (p : Nat → Bool) : ∀ n, (∀ a b, a ≤ b → b < n → p a = true → p b = true) → ∃ k, (List.range n).countP (fun i => !p i) = k ∧ k ≤ n ∧ (∀ j, j < k → p j = false) ∧ ∀ j, k ≤ j → j < n → p j = true := by
  intro n
  induction n with
  | zero => intro _; exact ⟨0, rfl, Nat.le_refl _, fun j h => absurd h (Nat.not_lt_zero j), fun j _ h => absurd h (Nat.not_lt_zero j)⟩
  | succ n ih =>
    intro hm
    obtain ⟨k, h1, h2, h3, h4⟩ := ih fun a b hab hb => hm a b hab (by omega)
    rw [List.range_succ, List.countP_append, h1]
    cases hp : p n with
    | true =>
      refine ⟨k, by simp [hp], by omega, h3, fun j hj hjn => ?_⟩
      rcases Nat.lt_or_ge j n with h | h
      · exact h4 j hj h
      · rw [show j = n by omega]; exact hp
    | false =>
      have hk : k = n := by
        rcases Nat.lt_or_ge k n with h | h
        · have := hm k n (by omega) (by omega) (h4 k (Nat.le_refl _) h)
          rw [hp] at this
          cases this
        · omega
      subst hk
      refine ⟨k + 1, by simp [hp], Nat.le_refl _, fun j hj => ?_, fun j hj hjn => by omega⟩
      rcases Nat.lt_or_ge j k with h | h
      · exact h3 j h
      · rw [show j = k by omega]; exact hp
theorem inner_any (x : Int) (Bx Bn : Nat) (A : Option Addr) (n c : Nat) (N : List Sp) (hn : N.length = n) (i : Nat) (s : Sp) (hs : N[i]? = some s) (W : World) (hx : W.cell? ⟨Bx, 0, none⟩ = some (.int .i64 x)) (hc : W.cell? ⟨Bn, 0, none⟩ = some (.slice A n c)) (hL : LstV W (.slice A n c) N) :
    ∀ w, w = W → Calls Try.prog 45 #[.int .i64 (i : Int), .pointer (some ⟨Bx, 0, none⟩), .pointer (some ⟨Bn, 0, none⟩)] w fun e w' => e = .returned (.bool (decide (x < s.2))) ∧ ∃ m, w' = w.drewN m := by
  rintro w rfl
  obtain ⟨b, o, rfl, hb, m0, m1⟩ := sp_at hL hs
  have hi := (List.getElem?_eq_some_iff.1 hs).1
  have gi : (i : Int) < (n : Int) := by omega
  clear hL hs
  go_enter Try.func45, Try.ntmps45
  go_wp2_with fail
  go_quiet (fail)
  go_wp2_with fail
  go_ret
  exact ⟨rfl, nq, rfl⟩
set_option maxRecDepth 100000 in
set_option maxHeartbeats 4000000 in
theorem outer_any (x : Int) (Bn : Nat) (vn : Value) (N : List Sp) (hN : Nrm N) (hl : N.length ≤ 1000000) (W : World) (hc : W.cell? ⟨Bn, 0, none⟩ = some vn) (hL : LstV W vn N) :
    ∀ w, w = W → Calls Try.prog 43 #[.int .i64 x, .pointer (some ⟨Bn, 0, none⟩)] w fun e w' => e = .returned (.bool (memS N x)) ∧ Below w.heap.size w w' := by
  rintro w rfl
  have hh := hL
  obtain ⟨A, c, rfl, -⟩ := hh
  have hBn : Bn < w.heap.size := World.block_lt_of_cell? _ _ hc
  have b0 : Below w.heap.size w (w.alloc (.cells #[.int .i64 x] 3 (0, 0))) := (Below.refl _ _).alloc (Nat.le_refl _) _
  have c0 := (b0.cell (p := ⟨Bn, 0, none⟩) hBn).trans hc
  have L0 := hL.below b0
  have x0 : (w.alloc (.cells #[.int .i64 x] 3 (0, 0))).cell? ⟨w.heap.size, 0, none⟩ = some (.int .i64 x) := by rw [cell_of_row _ _ 0 _ _ _ (heap_alloc_new _ _)]; rfl
  have hz0 : w.heap.size < (w.alloc (.cells #[.int .i64 x] 3 (0, 0))).heap.size := by simp
  generalize hw0 : w.alloc (.cells #[.int .i64 x] 3 (0, 0)) = w0 at b0 c0 L0 x0 hz0
  have eg : ∀ args w, (callFunc 45 args).run Try.prog w = .ok (.enter 45 args) w := enters_of Try.func45 (by kernel_rfl) rfl
  have S := Try.sort_Search 45 #[.pointer (some ⟨w.heap.size, 0, none⟩), .pointer (some ⟨Bn, 0, none⟩)] N.length (pS N x) w0 eg (by omega) (fun m os i hi => by
    obtain ⟨s, hs⟩ := at_lt hi
    have bg := below_grow w0 m os
    rw [pS_at hs]
    refine (inner_any x w.heap.size Bn A N.length c N rfl i s hs (Sort.grow (w0.drewN m) os) ((bg.cell (p := ⟨w.heap.size, 0, none⟩) hz0).trans x0) ((bg.cell (p := ⟨Bn, 0, none⟩) (Nat.lt_of_lt_of_le hBn b0.size)).trans c0) (L0.below bg) _ rfl).mono ?_
    rintro e w' ⟨he, q, rfl⟩
    exact ⟨he, q, #[], by rw [Sort.grow_empty]⟩) (pS_mono hN x)
  obtain ⟨k, hk, hkn, k1, k2⟩ := count_first (pS N x) N.length (pS_mono hN x)
  rw [hk] at S
  have SR := nrm_search hN (x := x) (k := k) fun j s hj hs => by
    have := k1 j hj
    rw [pS_at hs, decide_eq_false_iff_not] at this
    exact this
  have HB : Hid (∀ q os, Below w.heap.size w (Sort.grow (w0.drewN q) os)) := fun q os => b0.trans ((below_grow w0 q os).mono b0.size)
  have HX : Hid (∀ q os, (Sort.grow (w0.drewN q) os).cell? ⟨w.heap.size, 0, none⟩ = some (.int .i64 x) ∧ (Sort.grow (w0.drewN q) os).cell? ⟨Bn, 0, none⟩ = some (.slice A N.length c)) := fun q os => ⟨((below_grow w0 q os).cell (p := ⟨w.heap.size, 0, none⟩) hz0).trans x0, ((below_grow w0 q os).cell (p := ⟨Bn, 0, none⟩) (Nat.lt_of_lt_of_le hBn b0.size)).trans c0⟩
  have HS := Lib.hid S
  by_cases hlt : k < N.length
  · obtain ⟨s, hs⟩ := at_lt hlt
    have hp := k2 k (Nat.le_refl _) hlt
    rw [pS_at hs, decide_eq_true_iff] at hp
    have R := Lib.hid (SR.2 s hs hp)
    obtain ⟨p, o, rfl, hp0, m0, m1⟩ := sp_at L0 hs
    have HC : Hid (∀ q os, (Sort.grow (w0.drewN q) os).cell? ⟨p, o + k * 2, none⟩ = some (.int .i64 s.1)) := fun q os => ((below_grow w0 q os).cell (p := ⟨p, o + k * 2, none⟩) hp0).trans m0
    have gk : (k : Int) < (N.length : Int) := by omega
    clear S SR hp hs eg k1 k2 hk m0 m1 b0 L0 hz0 hL x0 hc
    go_enter Try.func43, Try.ntmps43
    go_wp2_with fail
    refine HS.out.mono ?_
    rintro e w2 ⟨rfl, q, os, hw2⟩
    obtain ⟨y0, y1⟩ := HX.out q os
    have y2 := HC.out q os
    have B2 := Lib.hid (HB.out q os)
    rw [← hw2] at y0 y1 y2 B2
    clear hw2 HX HC HB HS hw0 c0
    go_wp2_with fail
    go_quiet (fail)
    have B3 := Lib.hid (below_drewN B2.out nq)
    clear y0 y1 y2 B2
    generalize w2.drewN nq = w3 at B3 ⊢
    go_wp2_with fail
    go_ret
    exact ⟨ret_bool R.out.symm, B3.out⟩
  · have R := Lib.hid (SR.1 (by omega))
    have d : decide (k < N.length) = false := by rw [decide_eq_false_iff_not]; exact hlt
    have gd : decide ((k : Int) < (N.length : Int)) = false := by rw [decide_eq_false_iff_not]; omega
    clear S SR eg k1 k2 hk b0 L0 hz0 hL x0 hc hlt
    go_enter Try.func43, Try.ntmps43
    go_wp2_with fail
    refine HS.out.mono ?_
    rintro e w2 ⟨rfl, q, os, hw2⟩
    obtain ⟨y0, y1⟩ := HX.out q os
    have B2 := Lib.hid (HB.out q os)
    rw [← hw2] at y0 y1 B2
    clear hw2 HX HB HS hw0 c0
    go_wp2_with fail
    go_quiet (fail)
    have B3 := Lib.hid (below_drewN B2.out nq)
    clear y0 y1 B2
    generalize w2.drewN nq = w3 at B3 ⊢
    go_wp2_with fail
    go_ret
    exact ⟨ret_bool R.out.symm, B3.out⟩
theorem memb_any (v : Value) (l : List Sp) (hl : l.length ≤ 1000000) (w : World) (h : LstV w v l) :
    Calls Try.prog 33 #[v] w fun e w' => ∃ fv, e = .returned fv ∧ Cond w' fv (memS l) ∧ Below w.heap.size w w' := by
  have C := Lib.hid (norm_any v l hl w h)
  have hN := (nrmS_spec l).1
  have hf : memS (nrmS l) = memS l := funext (nrmS_spec l).2
  have hlen := Nat.le_trans (nrmS_len l) hl
  rw [← hf]
  generalize nrmS l = N at C hN hlen ⊢
  clear h hf
  go_enter Try.func33, Try.ntmps33
  go_wp2_with fail
  refine C.out.mono ?_
  rintro er w1 ⟨vn, rfl, l1, b1⟩
  have L1 := Lib.hid l1
  have B1 := Lib.hid b1
  have HN := Lib.hid hN
  obtain ⟨A, c, rfl, -⟩ := l1
  clear b1 C hN
  go_wp2_with fail
  go_ret
  have ba : Below w1.heap.size w1 (w1.alloc (.cells #[.slice A N.length c] 29 (0, 0))) := (Below.refl _ _).alloc (Nat.le_refl _) _
  refine ⟨_, rfl, ⟨43, #[.pointer (some ⟨w1.heap.size, 0, none⟩)], rfl, enters_of Try.func43 (by kernel_rfl) rfl, fun x W hW => ?_⟩, B1.out.trans (ba.mono B1.out.size)⟩
  refine outer_any x w1.heap.size _ N HN.out hlen W ?_ ((L1.out.below ba).below hW) W rfl
  rw [hW.cell (p := ⟨w1.heap.size, 0, none⟩) (by simp), cell_of_row _ _ 0 _ _ _ (heap_alloc_new _ _)]
  rfl
end Go.Proofs.Ytmlmdggfcdakhaa
