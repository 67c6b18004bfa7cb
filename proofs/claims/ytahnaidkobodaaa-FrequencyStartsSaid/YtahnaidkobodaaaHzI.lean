/-
  The iterator over the starts of a frequency, and what it hands to a loop's body: package frequency. Condition: none beyond each theorem's own hypotheses.
-/
import Derived.Test.YtahnaidkobodaaaHzS
import Derived.RangeFuncNested
import Derived.RangeFuncBound
import Derived.RangeFuncCalls
import Derived.RangeFuncLeaves
import Derived.Shelf.Abstract
import Derived.Shelf.RegionOpen
import Derived.OwnWalkIn
import Derived.TacticsInMore
import Derived.LoopNIn
import Derived.LoopIn
import Derived.Maps.AppendAt
import Derived.ScopeJumps
import Derived.RangeFuncBox
namespace Go.Proofs.Ytahnaidkobodaaa
open Go.RowKit Go.Shelf
attribute [local go_sem] Oper.semAt_some

theorem starts_of (t a b v : Int) (w : World) : Calls Try.prog 28 #[fqV t a b v] w fun e w' => e = .returned (.func (.func 40) #[] #[.pointer (some ⟨w.heap.size, 0, none⟩)]) ∧ w' = w.alloc (boxF t a b v) := by
  go_enter Try.func28, Try.ntmps28
  go_wp2_with fail
  go_ret
  exact ⟨rfl, rfl⟩
/-- What is told of the world so far holds when only new memory has been taken. -/
theorem abide {α : Type} {J : α → World → Prop} {W W' : World} {n : Nat} {s : α} (h : AbidesFrom n J) (hJ : J s W) (hb : Below W.heap.size W W') : J s W' :=
  h s W W' none hJ ⟨hb.os, hb.tape, hb.output, hb.size, fun k hk _ => hb.block k hk⟩ (fun r e => by cases e)
set_option maxRecDepth 100000 in
set_option maxHeartbeats 4000000 in
/-- The iterator at any consumer that leaves the frequency's box alone. -/
theorem starts_core (t a b v : Int) (n bk : Nat) (hn : 1 ≤ n) (l : Nat) (J Jx : List Int → World → Prop) (W : World) (hJ : AbidesFrom W.heap.size J) (hc : W.heap[bk]? = some (boxF t a b v))
    (hY : ∀ (pre : List Int) (x : Int) W1, J pre W1 → pre.length < 172800 → YieldAt Fence.wide (n - 1) Try.prog l #[.int .i64 x] W1 fun e W' => (e = .returned (.bool true) ∧ J (pre ++ [x]) W' ∧ W'.heap[bk]? = W1.heap[bk]?) ∨ (e = .returned (.bool false) ∧ Jx (pre ++ [x]) W')) (h0 : J [] W) :
    CallsIn Fence.wide n Try.prog 40 #[.func (.yield l) #[] #[], .pointer (some ⟨bk, 0, none⟩)] W fun e W' => (∃ v, e = .returned v) ∧ ((∃ xs, xs = stsF (t, a, b, v) ∧ J xs W') ∨ (∃ pre, pre <+: stsF (t, a, b, v) ∧ Jx pre W')) := by
  refine callsIn_of_wp Try.func40 rfl trivial ?_ rfl
  simp only [Try.ntmps40, List.size_toArray, List.length_cons, List.length_nil, Nat.reduceAdd, Nat.reduceSub, Array.replicate_succ, Array.replicate_zero, List.push_toArray, List.append_toArray, List.nil_append, List.cons_append]
  obtain ⟨p0, p1, p2, p3⟩ := row_fq hc
  have S := Lib.hid (ksnd_any t a b v W)
  have HY := Lib.hid hY
  have HC := Lib.hid hc
  have H0 := Lib.hid h0
  have HJ := Lib.hid hJ
  have hbk : bk < W.heap.size := (Array.getElem?_eq_some_iff.1 hc).1
  have HK := Lib.hid hbk
  clear hc hY h0 hJ hbk
  cases h : sndF (t, a, b, v) with
  | false =>
    have E := Lib.hid (sts_no h)
    rw [h] at S
    clear h
    gi_wp2_with (refine ⟨trivial, ?_⟩; gi_at_call 36; refine (callsIn_wide.2 S.out).mono ?_; rintro e w' ⟨rfl, b1⟩)
    refine bodyPost_ret (results_none rfl _ _ _) rfl ?_
    exact ⟨⟨_, rfl⟩, .inl ⟨[], E.out.symm, abide HJ.out H0.out b1⟩⟩
  | true =>
    have E := Lib.hid (sts_yes h)
    obtain ⟨h1, h2, h3, h4, h5⟩ := snd_iff.1 h
    have HH := Lib.hid h
    have LE := Lib.hid (cnt_le h)
    rw [h] at S
    clear h
    gi_wp2_with (refine ⟨trivial, ?_⟩; gi_at_call 36; refine (callsIn_wide.2 S.out).mono ?_; rintro e w' ⟨rfl, b1⟩; obtain ⟨z0, z1, z2, z3⟩ := row_fq ((b1.block bk HK.out).trans HC.out))
    have J1 := Lib.hid (abide HJ.out H0.out b1)
    have C1 : Hid (w'.heap[bk]? = some (boxF t a b v)) := (b1.block bk HK.out).trans HC.out
    clear b1 S z0 z1 z2 z3 p0 p1 p2 p3 HC H0
    gi_loopw [3] (fun i wr => ∃ (k : Nat) (s : Int), i = .int .i64 s ∧ Hid (s = nthF (t, a, b, v) k) ∧ 0 ≤ s ∧ Hid (k ≤ cntF (t, a, b, v)) ∧ Hid (J ((lstF (t, a, b, v)).take k) wr) ∧ Hid (wr.heap[bk]? = some (boxF t a b v))) (fun i _ => (172800 - intOf i).toNat)
    case atStart => exact ⟨0, a, rfl, Lib.hid (nth_zero (t, a, b, v)).symm, h1, Lib.hid (Nat.zero_le _), J1, C1⟩
    case round =>
      clear J1 C1
      obtain ⟨k, s, rfl, hs, hs0, hk, HJ1, HC1⟩ := hrel
      obtain ⟨q0, q1, q2, q3⟩ := row_fq HC1.out
      by_cases hlt : s < b
      · have hkc : k < cntF (t, a, b, v) := (cnt_lt HH.out k).2 (by rw [← hs.out]; exact hlt)
        have N := Lib.hid (lst_next hkc)
        have N2 : Hid (s + v = nthF (t, a, b, v) (k + 1)) := by rw [nth_next, ← hs.out]; exact rfl
        have K2 : Hid (k + 1 ≤ cntF (t, a, b, v)) := hkc
        have hlen : ((lstF (t, a, b, v)).take k).length < 172800 := by rw [List.length_take]; have := LE.out; omega
        rw [← hs.out] at N
        obtain ⟨fn, tmps, assign, body, hy, hR⟩ := HY.out ((lstF (t, a, b, v)).take k) s _ HJ1.out hlen
        have HR := Lib.hid hR
        have HP : Hid ((lstF (t, a, b, v)).take k ++ [s] <+: stsF (t, a, b, v)) := by
          show _ <+: _
          rw [E.out, ← N.out]
          exact lst_pre _
        clear hkc hk hs hR hlen
        gi_wp2
        refine HR.out.mono ?_
        rintro e W3 (⟨rfl, hJ3, hk3⟩ | ⟨rfl, hJx3⟩)
        · have J3 : Hid (J ((lstF (t, a, b, v)).take (k + 1)) W3) := by
            show J _ _
            rw [N.out]
            exact hJ3
          have C3 : Hid (W3.heap[bk]? = some (boxF t a b v)) := hk3.trans HC1.out
          obtain ⟨z0, z1, z2, z3⟩ := row_fq C3.out
          clear hJ3 hk3 HC1 HJ1 q0 q1 q2 q3
          gi_wp2
          go_roundw
          case rel => exact ⟨k + 1, s + v, by go_num, N2, by omega, K2, J3, C3⟩
          case measure => simp [intOf]; omega
        · have J3 := Lib.hid hJx3
          clear hJx3 HC1 HJ1 q0 q1 q2 q3
          gi_wp2
          refine bodyPost_end (results_none rfl _ _ _) rfl ?_
          exact ⟨⟨_, rfl⟩, .inr ⟨_, HP.out, J3.out⟩⟩
      · have d : decide (s < b) = false := decide_eq_false hlt
        have hkc : k = cntF (t, a, b, v) := by
          have h6 := hk.out
          rcases Nat.lt_or_ge k (cntF (t, a, b, v)) with h7 | h7
          · exact absurd (show s < b by rw [hs.out]; exact (cnt_lt HH.out k).1 h7) hlt
          · omega
        have O := Lib.hid HJ1.out
        rw [hkc, lst_all, ← E.out] at O
        clear hlt hkc hk hs HJ1
        gi_wp2
        refine ⟨fun _ h => (by cases h), ?_⟩
        gi_wp2
        refine bodyPost_end (results_none rfl _ _ _) rfl ?_
        exact ⟨⟨_, rfl⟩, .inl ⟨_, rfl, O.out⟩⟩
end Go.Proofs.Ytahnaidkobodaaa
