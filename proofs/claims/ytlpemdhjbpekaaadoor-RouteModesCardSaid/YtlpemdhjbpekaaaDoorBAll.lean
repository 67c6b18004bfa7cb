/-
  The iterator of package bitset: what it hands to a loop's body. Condition: words below 2^64.
-/
import Derived.Test.YtlpemdhjbpekaaaDoorBList
import Derived.Test.YtlpemdhjbpekaaaDoorSameI
import Derived.RangeFuncNested
import Derived.RangeFuncBound
import Derived.RangeFuncCalls
import Derived.RangeFuncLeaves
import Derived.Shelf.Abstract
import Derived.Shelf.RegionOpen
import Derived.OwnWalkIn
import Derived.TacticsInMore
import Derived.LoopNIn
import Derived.LoopIn
import Derived.Maps.AppendAt
import Derived.ScopeJumps
namespace Go.Proofs.YtlpemdhjbpekaaaDoor
open Go.RowKit Go.Shelf
attribute [local go_sem] Oper.semAt_some
/-! ### A scope that is left by a jump back: one pass serves the first way, too -/
theorem jump_less {l : Nat} {J J' : Act → World → Prop} {Q : Exit → Act → World → Prop} (h : ∀ a w, J a w → J' a w) : ∀ e a w, Exit.jump l J Q e a w → Exit.jump l J' Q e a w
  | .goto _, _, _, ⟨h1, h2⟩ => ⟨h1, h _ _ h2⟩
  | .normal, _, _, h1 => h1
  | .exit _, _, _, h1 => h1
  | .ret, _, _, h1 => h1
  | .panic _, _, _, h1 => h1
  | .outgrown, _, _, h1 => h1
theorem scope_back {P : Program} {a : Act} {w : World} {Q : Exit → Act → World → Prop} {c rest : Code} (n l : Nat) (J : Act → World → Prop) (μ : Act → World → Nat) (hf : findLabel c l = some (Code.skip.seq rest))
    (first : (∀ a w, J a w → rest.wpIn Fence.wide n P (Exit.jump l J Q) a w) → c.wpIn Fence.wide n P (Exit.jump l J Q) a w)
    (pass : ∀ a w, J a w → rest.wpIn Fence.wide n P (Exit.jump l (fun a' w' => J a' w' ∧ μ a' w' < μ a w) Q) a w) : (Code.scope c).wpIn Fence.wide n P Q a w :=
  wpIn_wide.2 (wp_scope_jumps l J μ hf (wpIn_wide.1 (first fun a w h => wpIn_mono (pass a w h) (jump_less fun _ _ h => h.1))) fun a w h => wpIn_wide.1 (wpIn_seq (wpIn_skip (pass a w h))))

/-! ### The iterator -/
theorem good_keep {n₀ : Nat} {w w' : World} (hg : Good w) (hlt : 1 < n₀) (hb : Below n₀ w w') : Good w' := var?_below hb gTab hlt hg
/-- Between two elements: what has come, and the word of those that are to come. -/
def AllJ (yv : Value) (b n₀ s : Nat) (w0 : World) (J : List Nat → World → Prop) (a' : Act) (W' : World) : Prop :=
  ∃ (pre : List Nat) (r : Nat) (u4 u5 u6 u7 u8 u9 u10 u11 u12 u13 u14 u15 u16 u17 u18 u19 u20 u21 u22 u23 : Value), a' = { tmps := #[yv, .pointer (some ⟨b, 0, none⟩), undef, .int .u64 (r : Int), u4, u5, u6, u7, u8, u9, u10, u11, u12, u13, u14, u15, u16, u17, u18, u19, u20, u21, u22, u23], defers := [] } ∧ W64 r ∧ Hid (elems s = pre ++ elems r) ∧ Hid (J pre W') ∧ Hid (Below n₀ w0 W')
def lenOf (a' : Act) : Nat := (elems (intOf (a'.tmps.getD 3 undef)).toNat).length
theorem low_step {r : Nat} (hr : W64 r) (h0 : r ≠ 0) : elems r = minB r :: elems (delB r (minB r)) ∧ bits BinOp.and IntKind.u64 (r : Int) (((r - 1 : Nat)) : Int) = ((delB r (minB r) : Nat) : Int) ∧ W64 (delB r (minB r)) := by
  obtain ⟨h1, h2, h3⟩ := min_low hr h0
  refine ⟨elems_low h1 h2 h3, ?_, Nat.lt_of_le_of_lt (del_le _ _) hr⟩
  rw [bits_and_u64_nat r (r - 1) hr (by unfold W64 at hr; omega), low_clear h2 h3]

set_option maxHeartbeats 4000000 in
/-- The iterator at any consumer that is asked for the elements alone. -/
theorem all_core (s : Nat) (hs : W64 s) (n b n₀ : Nat) (hn : 1 ≤ n) (w0 : World) (hc : w0.cell? ⟨b, 0, none⟩ = some (.int .u64 (s : Int))) (hg : Good w0) (hlt : 1 < n₀) (hle : n₀ ≤ w0.heap.size)
    (l : Nat) (J Jx : List Nat → World → Prop) (W : World) (hW : Below w0.heap.size w0 W)
    (hY : ∀ (pre : List Nat) (x : Nat) W1, J pre W1 → pre.length < 64 → pre ++ [x] <+: elems s → YieldAt Fence.wide (n - 1) Tryd.prog l #[.int .i64 ((x : Nat) : Int)] W1 fun e W' => (e = .returned (.bool true) ∧ J (pre ++ [x]) W' ∧ Below n₀ W1 W') ∨ (e = .returned (.bool false) ∧ Jx (pre ++ [x]) W')) (h0 : J [] W) :
    CallsIn Fence.wide n Tryd.prog 41 #[.func (.yield l) #[] #[], .pointer (some ⟨b, 0, none⟩)] W fun e W' => (∃ v, e = .returned v) ∧ ((∃ xs, xs = elems s ∧ J xs W') ∨ (∃ pre, pre <+: elems s ∧ Jx pre W')) := by
  refine callsIn_of_wp Tryd.func41 rfl trivial ?_ rfl
  simp only [Tryd.ntmps41, List.size_toArray, List.length_cons, List.length_nil, Nat.reduceAdd, Nat.reduceSub, Array.replicate_succ, Array.replicate_zero, List.push_toArray, List.append_toArray, List.nil_append, List.cons_append]
  have hb : b < w0.heap.size := World.block_lt_of_cell? _ _ hc
  have hcW := (hW.cell (p := ⟨b, 0, none⟩) hb).trans hc
  have HY := Lib.hid hY
  have HG := Lib.hid hg
  have HW := Lib.hid (hW.mono hle)
  have H0 := Lib.hid h0
  clear hc hY hg hW h0
  gi_wp2
  refine scope_back n 0 (AllJ (.func (.yield l) #[] #[]) b n₀ s w0 J) (fun a' _ => lenOf a') rfl ?_ ?_
  · intro again
    have AG := Lib.hid again
    clear again
    gi_wp2
    refine wpIn_label ?_
    simp only [Exit.then]
    rename_i K hK
    refine hK _ _ (AG.out _ _ ?_)
    exact ⟨[], s, _, _, _, _, _, _, _, _, _, _, _, _, _, _, _, _, _, _, _, _, rfl, hs, Lib.hid rfl, H0, HW⟩
  · rintro a' W' ⟨pre, r, u4, u5, u6, u7, u8, u9, u10, u11, u12, u13, u14, u15, u16, u17, u18, u19, u20, u21, u22, u23, rfl, hr, hel, hJ, hB⟩
    have M := Lib.hid (min_any r hr W' (good_keep HG.out hlt hB.out))
    by_cases h0 : r = 0
    · subst h0
      have E := Lib.hid (show elems s = pre by rw [hel.out, elems_zero, List.append_nil])
      gi_wp2_with (refine ⟨trivial, ?_⟩; gi_at_call 42; refine (callsIn_wide.2 M.out).mono ?_; rintro e w' ⟨rfl, rfl⟩)
      refine ⟨fun _ h => (by cases h), ?_⟩
      gi_wp2
      simp only [Exit.jump]
      refine bodyPost_ret (results_none rfl _ _ _) rfl ?_
      exact ⟨⟨_, rfl⟩, .inl ⟨pre, E.out.symm, hJ.out⟩⟩
    · obtain ⟨e1, e2, e3⟩ := low_step hr h0
      have E := Lib.hid (show elems s = pre ++ [minB r] ++ elems (delB r (minB r)) by rw [hel.out, e1, List.append_assoc]; rfl)
      have L := Lib.hid (show (elems (delB r (minB r))).length < (elems r).length by rw [e1, List.length_cons]; omega)
      have hlen : pre.length < 64 := by
        have h1 := elems_len s
        rw [hel.out, e1, List.length_append, List.length_cons] at h1
        omega
      obtain ⟨fn, tmps, assign, body, hy, hR⟩ := HY.out pre (minB r) W' hJ.out hlen ⟨_, E.out.symm⟩
      have D := Lib.hid (show decide (r ≠ 0) = true by simp [h0])
      rw [D.out] at M
      have e4 : IntKind.u64.wrap ((r : Int) - 1) = ((r - 1 : Nat) : Int) := by
        rw [IntKind.wrap_u64]
        unfold W64 at hr
        omega
      have HR := Lib.hid hR
      have K3 := Lib.hid e3
      clear e1 e3 hel hlen hR h0 HY
      generalize minB r = m at M hy HR E L e2 K3
      generalize delB r m = d at E L e2 K3
      generalize ((r - 1 : Nat) : Int) = r1 at e2 e4
      gi_wp2_with (refine ⟨trivial, ?_⟩; gi_at_call 42; refine (callsIn_wide.2 M.out).mono ?_; rintro e w' ⟨rfl, rfl⟩)
      refine HR.out.mono ?_
      rintro e W3 (⟨rfl, hJ3, hk3⟩ | ⟨rfl, hJx3⟩)
      · gi_wp2
        refine wpIn_goto ?_
        refine ⟨rfl, ⟨pre ++ [m], d, _, _, _, _, _, _, _, _, _, _, _, _, _, _, _, _, _, _, _, _, rfl, K3.out, E, Lib.hid hJ3, Lib.hid (hB.out.trans hk3)⟩, ?_⟩
        have := L.out
        simpa [lenOf, intOf] using this
      · gi_wp2
        simp only [Exit.jump]
        refine bodyPost_ret (results_none rfl _ _ _) rfl ?_
        exact ⟨⟨_, rfl⟩, .inr ⟨pre ++ [m], ⟨elems d, E.out.symm⟩, hJx3⟩⟩
theorem all_stops (s : Nat) (hs : W64 s) (n b n₀ : Nat) (hn : 1 ≤ n) (w0 : World) (hc : w0.cell? ⟨b, 0, none⟩ = some (.int .u64 (s : Int))) (hg : Good w0) (hlt : 1 < n₀) (hle : n₀ ≤ w0.heap.size) :
    SeqStopsK Fence.wide n Tryd.prog 41 #[.pointer (some ⟨b, 0, none⟩)] (fun x : Nat => #[.int .i64 (x : Int)]) (Below n₀) (fun xs => xs = elems s) (fun pre => pre <+: elems s) 64 w0 := fun l J Jx W hW _ _ hY h0 =>
  all_core s hs n b n₀ hn w0 hc hg hlt hle l J Jx W hW (fun pre x W1 h1 h2 _ => hY pre x W1 h1 h2) h0
/-- The same where the consumer is told that each element is below k. -/
theorem all_stops_of (k : Nat) (s : Nat) (hs : W64 s) (hk : ∀ x ∈ elems s, x < k) (n b n₀ : Nat) (hn : 1 ≤ n) (w0 : World) (hc : w0.cell? ⟨b, 0, none⟩ = some (.int .u64 (s : Int))) (hg : Good w0) (hlt : 1 < n₀) (hle : n₀ ≤ w0.heap.size) :
    SeqStopsK Fence.wide n Tryd.prog 41 #[.pointer (some ⟨b, 0, none⟩)] (fun x : Fin k => #[.int .i64 ((x.val : Nat) : Int)]) (Below n₀) (fun xs => xs.map (·.val) = elems s) (fun pre => pre.map (·.val) <+: elems s) 64 w0 := fun l J Jx W hW _ _ hY h0 => by
  refine (all_core s hs n b n₀ hn w0 hc hg hlt hle l (fun pre W => ∃ q : List (Fin k), q.map (·.val) = pre ∧ J q W) (fun pre W => ∃ q : List (Fin k), q.map (·.val) = pre ∧ Jx q W) W hW ?_ ⟨[], rfl, h0⟩).mono ?_
  · rintro pre x W1 ⟨q, rfl, hJ⟩ hl hp
    have hx : x < k := hk x (by obtain ⟨t, ht⟩ := hp; rw [← ht]; simp)
    refine (hY q ⟨x, hx⟩ W1 hJ (by simpa using hl)).mono ?_
    rintro e W' (⟨h1, h2, h3⟩ | ⟨h1, h2⟩)
    · exact .inl ⟨h1, ⟨q ++ [⟨x, hx⟩], by simp, h2⟩, h3⟩
    · exact .inr ⟨h1, q ++ [⟨x, hx⟩], by simp, h2⟩
  · rintro e W' ⟨hv, ⟨xs, hxs, q, hq, hJ⟩ | ⟨pre, hp, q, hq, hJ⟩⟩
    · exact ⟨hv, .inl ⟨q, hq.trans hxs, hJ⟩⟩
    · exact ⟨hv, .inr ⟨q, by show _ <+: _; rw [hq]; exact hp, hJ⟩⟩
end Go.Proofs.YtlpemdhjbpekaaaDoor
