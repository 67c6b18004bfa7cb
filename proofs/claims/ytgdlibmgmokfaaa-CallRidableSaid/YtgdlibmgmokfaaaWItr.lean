/-
  Rides of package call: the iterator that a call hands back, and what it hands to a loop's body. Condition: lists of at most 60 calls.
-/
import Derived.Test.YtgdlibmgmokfaaaWShf
import Derived.Test.YtgdlibmgmokfaaaWEq
import Derived.RangeFuncNested
import Derived.RangeFuncBound
import Derived.RangeFuncCalls
import Derived.RangeFuncLeaves
import Derived.Shelf.Abstract
import Derived.Shelf.RegionOpen
import Derived.OwnWalkIn
import Derived.TacticsInMore
import Derived.LoopNIn
import Derived.LoopIn
import Derived.Maps.AppendAt
import Derived.ScopeJumps
import Derived.RangeFuncBox
namespace Go.Proofs.Ytgdlibmgmokfaaa
open Go.RowKit Go.Shelf
attribute [local go_sem] Oper.semAt_some

/-- Rides hands back a function that holds a list of its own in a box. -/
theorem krides_any (v : Value) (l : List Cl) (hl : l.length ≤ 60) (w : World) (h : LstC w v l) :
    Calls Try.prog 30 #[v] w fun e w' => ∃ b v', e = .returned (.func (.func 32) #[] #[.pointer (some ⟨b, 0, none⟩)]) ∧ w'.cell? ⟨b, 0, none⟩ = some v' ∧ LstC w' v' l ∧ Below w.heap.size w w' := by
  have C := Lib.hid (clone_any v l (by omega) w h)
  clear h
  go_enter Try.func30, Try.ntmps30
  go_wp2_with fail
  refine C.out.mono ?_
  rintro e w1 ⟨v1, rfl, o1, b1⟩
  have hh := o1
  obtain ⟨A, c, rfl, -, -, -⟩ := ownK_shape hh
  have O1 := Lib.hid o1
  have B1 := Lib.hid b1
  clear hh o1 b1 C
  go_wp2_with fail
  go_ret
  refine ⟨w1.heap.size, .slice A l.length c, rfl, ?_, ?_, B1.out.alloc B1.out.size _⟩
  · rw [cell_of_row _ _ 0 _ _ _ (heap_alloc_new _ _)]
    rfl
  · exact O1.out.lst.below ((Below.refl _ _).alloc (Nat.le_refl _) _)
set_option maxRecDepth 100000 in
set_option maxHeartbeats 4000000 in
/-- The iterator at any consumer that is asked for the rides alone. -/
theorem rides_core (cs : List Cl) (hl : cs.length ≤ 60) (n b : Nat) (hn : 1 ≤ n) (v : Value) (w1 : World) (hc : w1.cell? ⟨b, 0, none⟩ = some v) (hv : LstC w1 v cs)
    (l : Nat) (J Jx : List Pr → World → Prop) (W : World) (hW : Below w1.heap.size w1 W)
    (hY : ∀ (pre : List Pr) (x : Pr) W1, J pre W1 → pre.length < 3600 → pre ++ [x] <+: prsC cs → YieldAt Fence.wide (n - 1) Try.prog l #[.int .i64 (x.1 : Int), .int .i64 (x.2 : Int)] W1 fun e W' => (e = .returned (.bool true) ∧ J (pre ++ [x]) W' ∧ Below w1.heap.size W1 W') ∨ (e = .returned (.bool false) ∧ Jx (pre ++ [x]) W')) (h0 : J [] W) :
    CallsIn Fence.wide n Try.prog 32 #[.func (.yield l) #[] #[], .pointer (some ⟨b, 0, none⟩)] W fun e W' => (∃ v, e = .returned v) ∧ ((∃ xs, xs = prsC cs ∧ J xs W') ∨ (∃ pre, pre <+: prsC cs ∧ Jx pre W')) := by
  refine callsIn_of_wp Try.func32 rfl trivial ?_ rfl
  simp only [Try.ntmps32, List.size_toArray, List.length_cons, List.length_nil, Nat.reduceAdd, Nat.reduceSub, Array.replicate_succ, Array.replicate_zero, List.push_toArray, List.append_toArray, List.nil_append, List.cons_append]
  have hb : b < w1.heap.size := World.block_lt_of_cell? _ _ hc
  have hcW := (hW.cell (p := ⟨b, 0, none⟩) hb).trans hc
  obtain ⟨A, c, rfl, -, -, -⟩ := id hv
  have HY := Lib.hid hY
  have HV := Lib.hid hv
  have HW := Lib.hid hW
  have HC := Lib.hid hc
  have H0 := Lib.hid h0
  clear hc hY hv hW h0
  gi_wp2
  refine wpIn_wide.2 (wp_scope_straight ((wpIn_wide (n := n)).1 ?_))
  gi_wp2
  refine wpIn_label ?_
  gi_wp2
  gi_loopw [7] (fun i wr => ∃ (q : Nat) (pre : List Pr), i = .int .i64 (q : Int) ∧ q ≤ cs.length ∧ Hid (prsC cs = pre ++ allR cs q) ∧ Hid (J pre wr) ∧ Hid (Below w1.heap.size w1 wr)) (fun i _ => cs.length - (intOf i).toNat)
  case atStart => exact ⟨0, [], rfl, Nat.zero_le _, Lib.hid prs_start, H0, HW⟩
  case round =>
    clear hcW H0 HW
    obtain ⟨q, pre, rfl, hq, hz, HJ, HB⟩ := hrel
    by_cases hlt : q < cs.length
    · have gk : (q : Int) < (cs.length : Int) := by omega
      have N := Lib.hid (prs_row hz.out hlt)
      clear hz
      gi_wp2
      gi_loopw [4] (fun i wr => ∃ (k : Nat) (pre : List Pr), i = .int .i64 (k : Int) ∧ k ≤ cs.length ∧ Hid (prsC cs = pre ++ (rowR cs q k ++ allR cs (q + 1))) ∧ Hid (J pre wr) ∧ Hid (Below w1.heap.size w1 wr)) (fun i _ => cs.length - (intOf i).toNat)
      case atStart => exact ⟨q + 1, pre, by go_num, by omega, N, HJ, HB⟩
      case round =>
        clear N HJ HB
        obtain ⟨k, pre, rfl, hk, hz, HJ, HB⟩ := hrel
        have hcW := (HB.out.cell (p := ⟨b, 0, none⟩) hb).trans HC.out
        by_cases hkl : k < cs.length
        · have gk2 : (k : Int) < (cs.length : Int) := by omega
          have M := Lib.hid (krid_any (.slice A cs.length c) cs (q : Int) (k : Int) _ (HV.out.below HB.out))
          cases hr : rdB cs (q : Int) (k : Int) with
          | false =>
            rw [hr] at M
            have N := Lib.hid (prs_miss hz.out hkl hr)
            clear hz hr
            gi_wp2_with (refine ⟨trivial, ?_⟩; gi_at_call 17; refine (callsIn_wide.2 M.out).mono ?_; rintro e w' ⟨rfl, rfl⟩)
            refine ⟨fun _ h => (by cases h), ?_⟩
            gi_wp2
            go_roundw
            case rel => exact ⟨k + 1, pre, by go_num, by omega, N, HJ, HB⟩
            case measure => simp [intOf]; omega
          | true =>
            rw [hr] at M
            have N := Lib.hid (prs_hit hz.out hkl hr)
            have hpre : pre ++ [(q, k)] <+: prsC cs := ⟨_, N.out.symm⟩
            have hlen : pre.length < 3600 := by
              have h1 := hpre.length_le
              have h2 := prs_le cs
              have h3 : cs.length * cs.length ≤ 60 * 60 := Nat.mul_le_mul hl hl
              rw [List.length_append, List.length_cons, List.length_nil] at h1
              omega
            obtain ⟨fn, tmps, assign, body, hy, hR⟩ := HY.out pre (q, k) _ HJ.out hlen hpre
            have HR := Lib.hid hR
            have HP := Lib.hid hpre
            clear hz hr hR hlen hpre
            gi_wp2_with (refine ⟨trivial, ?_⟩; gi_at_call 17; refine (callsIn_wide.2 M.out).mono ?_; rintro e w' ⟨rfl, rfl⟩)
            refine HR.out.mono ?_
            rintro e W3 (⟨rfl, hJ3, hk3⟩ | ⟨rfl, hJx3⟩)
            · have HJ3 := Lib.hid hJ3
              have HB3 : Hid (Below w1.heap.size w1 W3) := HB.out.trans hk3
              clear hJ3 hk3
              gi_wp2
              go_roundw
              case rel => exact ⟨k + 1, pre ++ [(q, k)], by go_num, by omega, N, HJ3, HB3⟩
              case measure => simp [intOf]; omega
            · have HJ3 := Lib.hid hJx3
              clear hJx3
              gi_wp2
              rw [Exit.noGoto_normal]
              refine bodyPost_end (results_none rfl _ _ _) rfl ?_
              exact ⟨⟨_, rfl⟩, .inr ⟨_, HP.out, HJ3.out⟩⟩
        · have d : decide (k < cs.length) = false := by rw [decide_eq_false_iff_not]; exact hkl
          have N := Lib.hid (prs_rowend hz.out (by omega))
          clear hz hkl
          gi_wp2
          go_roundw
          case rel => exact ⟨q + 1, pre, by go_num, by omega, N, HJ, HB⟩
          case measure => simp [intOf]; omega
    · have d : decide (q < cs.length) = false := by rw [decide_eq_false_iff_not]; exact hlt
      have E := Lib.hid (prs_end hz.out (by omega))
      clear hz hlt
      gi_wp2
      rw [Exit.noGoto_normal]
      refine bodyPost_end (results_none rfl _ _ _) rfl ?_
      exact ⟨⟨_, rfl⟩, .inl ⟨_, rfl, by rw [E.out]; exact HJ.out⟩⟩
/-- The iterator as a loop over it wants it. -/
theorem rides_stops (cs : List Cl) (hl : cs.length ≤ 60) (n b : Nat) (hn : 1 ≤ n) (v : Value) (w1 w0 : World) (hc : w1.cell? ⟨b, 0, none⟩ = some v) (hv : LstC w1 v cs) (h0 : Below w1.heap.size w1 w0) :
    SeqStopsK Fence.wide n Try.prog 32 #[.pointer (some ⟨b, 0, none⟩)] (fun x : Pr => #[.int .i64 (x.1 : Int), .int .i64 (x.2 : Int)]) (Below w1.heap.size) (fun xs => xs = prsC cs) (fun pre => pre <+: prsC cs) 3600 w0 := fun l J Jx W hW _ _ hY hJ =>
  rides_core cs hl n b hn v w1 hc hv l J Jx W (h0.trans (hW.mono h0.size)) (fun pre x W1 h1 h2 _ => hY pre x W1 h1 h2) hJ
end Go.Proofs.Ytgdlibmgmokfaaa
