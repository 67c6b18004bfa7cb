/-
  The reference's List and Min of a set of small ints: what each call answers; nothing that existed before the call has changed behind it. Condition: words below 2^64. The iterator of package bitset: what it hands to a loop's body. Condition: words below 2^64. All and List of package bitset: the iterator that a call hands back, and the list of the elements; nothing that existed before the call has changed behind it. Condition: words below 2^64; the table of math/bits as its initialiser lays it. A slice of routes in memory: the cells of a route, a route put into a box of its own; the table of the modes' names, which the program lays once. Condition: none beyond each theorem's own hypotheses. ModeName and ParseMode of package route, Names, ParseMode and mode of its reference: what each call answers; nothing that existed before the call has changed behind it. Condition: the table of the names as its initialiser lays it. The code's checkRoute, Check, Find of tables of routes: what each call answers; nothing that existed before the call has changed behind it. Condition: lists of fewer than 2^63 routes. The reference's Check and Find of tables of routes: what each call answers; it only draws. Condition: lists of fewer than 2^63 routes. A route among the arguments. Condition: none beyond each theorem's own hypotheses.
-/
import Derived.Test.YtkhalnjgbdpfhaaGreatShB
import Derived.Test.YtkhalnjgbdpfhaaGreatShA
import Derived.RangeFuncNested
import Derived.RangeFuncBound
import Derived.RangeFuncCalls
import Derived.RangeFuncLeaves
import Derived.Shelf.Abstract
import Derived.Shelf.RegionOpen
import Derived.OwnWalkIn
import Derived.TacticsInMore
import Derived.LoopNIn
import Derived.LoopIn
import Derived.Maps.AppendAt
import Derived.ScopeJumps
import Derived.RangeFuncBox
import Derived.Test.YtkhalnjgbdpfhaaGreatMap
import Derived.Test.YtkhalnjgbdpfhaaGreatShV
import Derived.Test.YtkhalnjgbdpfhaaGreatShP
import Derived.Laws.Rows
import Derived.Test.YtkhalnjgbdpfhaaGreatJId
import Derived.Deep.Strs
import Derived.Lib.SmallJoins
namespace Go.Proofs.YtkhalnjgbdpfhaaGreat.S15
set_option maxRecDepth 100000
open Go.RowKit

theorem OwnI.alloc {w : World} {base : Nat} {v : Value} {l : List Int} (h : OwnI w base v l) (o : Obj) : OwnI (w.alloc o) base v l := World.ownsRow.alloc h o
end Go.Proofs.YtkhalnjgbdpfhaaGreat.S15
namespace Go.Proofs.YtkhalnjgbdpfhaaGreat.S15
set_option maxRecDepth 100000
open Go.RowKit
attribute [local go_sem] Oper.semAt_some
end Go.Proofs.YtkhalnjgbdpfhaaGreat.S15
namespace Go.Proofs.YtkhalnjgbdpfhaaGreat.S15
set_option maxRecDepth 100000
open Go.RowKit
attribute [local go_sem] Oper.semAt_some

end Go.Proofs.YtkhalnjgbdpfhaaGreat.S15
namespace Go.Proofs.YtkhalnjgbdpfhaaGreat.S15
set_option maxRecDepth 100000
open Go.RowKit

/-- A route as cells. -/
def re (x : Rt) : List Value := [.string (str x.1), .int .i64 x.2.1, .bool x.2.2]
theorem re_len (x : Rt) : (re x).length = 3 := rfl
abbrev LstR := @LstG Rt re
/-- The three cells of a route. -/
theorem three_at {w : World} {A : Option Addr} {n c : Nat} {l : List Rt} (h : LstR w (.slice A n c) l) {i : Nat} {id : List UInt8} {m : Int} {f : Bool} (hs : l[i]? = some (id, m, f)) {s : ByteArray} (hst : str id = s) :
    ∃ b o, A = some ⟨b, o, none⟩ ∧ b < w.heap.size ∧ w.cell? ⟨b, o + i * 3, none⟩ = some (.string s) ∧ w.cell? ⟨b, o + i * 3 + 1, none⟩ = some (.int .i64 m) ∧ w.cell? ⟨b, o + i * 3 + 2, none⟩ = some (.bool f) := by
  subst hst
  obtain ⟨A', c', hv, _, _, hx⟩ := h
  cases hv
  have hi := (List.getElem?_eq_some_iff.1 hs).1
  obtain ⟨b, o, rfl, hb, hcell⟩ := hx (by omega)
  refine ⟨b, o, rfl, hb, hcell (i * 3) _ (by rw [← Nat.add_zero (i * 3), fl_at re_len hs 0 (by omega)]; rfl), (hcell (i * 3 + 1) _ (by rw [fl_at re_len hs 1 (by omega)]; rfl) : _), (hcell (i * 3 + 2) _ (by rw [fl_at re_len hs 2 (by omega)]; rfl) : _)⟩
/-- A route in a box. -/
abbrev boxR (s : ByteArray) (m : Int) (f : Bool) : Obj := .cells #[.string s, .int .i64 m, .bool f] 63 (0, 0)
theorem box_rt {w w7 : World} {s : ByteArray} {m : Int} {f : Bool} (h : w.alloc (boxR s m f) = w7) :
    Below w.heap.size w w7 ∧ w7.cell? ⟨w.heap.size, 0, none⟩ = some (.string s) ∧ w7.cell? ⟨w.heap.size, 1, none⟩ = some (.int .i64 m) ∧ w7.cell? ⟨w.heap.size, 2, none⟩ = some (.bool f) ∧ w.heap.size < w7.heap.size := by
  subst h
  have c7 := heap_alloc_new w (boxR s m f)
  exact ⟨(Below.refl _ _).alloc (Nat.le_refl _) _, by rw [cell_of_row _ _ 0 _ _ _ c7]; rfl, by rw [cell_of_row _ _ 1 _ _ _ c7]; rfl, by rw [cell_of_row _ _ 2 _ _ _ c7]; rfl, by simp⟩
theorem ret_chk {a b c d : Int} (h : a = b) (k : c = d) : Ending.returned (.tuple #[.int .i64 a, .int .i64 c]) = .returned (.tuple #[.int .i64 b, .int .i64 d]) := by rw [h, k]
theorem str_ne {id : List UInt8} {x : List UInt8} {s t : ByteArray} (hs : str x = s) (ht : str id = t) (h : x ≠ id) : s ≠ t := by
  intro e
  apply h
  have e2 : str x = str id := by rw [hs, ht, e]
  have := congrArg (fun b : ByteArray => b.data.toList) e2
  simpa [str] using this

end Go.Proofs.YtkhalnjgbdpfhaaGreat.S15
namespace Go.Proofs.YtkhalnjgbdpfhaaGreat.S15
set_option maxRecDepth 100000
open Go.RowKit

/-- Whether an int is a mode, asked of the set of all. -/
theorem has_mode (i : Int) : hasB 255 i = decide (okM i) := by
  unfold hasB
  rw [show (255 : Nat) = 2 ^ 8 - 1 by rfl, Nat.testBit_two_pow_sub_one, Bool.eq_iff_iff, Bool.and_eq_true, decide_eq_true_iff, decide_eq_true_iff, decide_eq_true_iff]
  unfold okM
  omega
theorem every_any (i : Int) (w : World) : Calls Tryz.prog 107 #[.int .u64 255, .int .i64 i] w fun e w' => e = .returned (.bool (decide (okM i))) ∧ w = w' := by
  have h := has_any 255 (by decide) i w
  rw [has_mode] at h
  exact h
theorem rmode_any (i : Int) (w : World) : Calls Tryz.prog 95 #[.int .i64 i] w fun e w' => e = .returned (.bool (decide (okM i))) ∧ w = w' := by
  by_cases h0 : 0 ≤ i
  · by_cases h8 : i < 8
    · have R := Lib.hid (show decide (okM i) = true from decide_eq_true ⟨h0, h8⟩)
      go_enter Tryz.func95, Tryz.ntmps95
      go_wp2_with fail
      go_ret
      exact ⟨ret_bool R.out.symm, rfl⟩
    · have R := Lib.hid (show decide (okM i) = false from decide_eq_false fun h => h8 h.2)
      have d : decide (i < 8) = false := decide_eq_false h8
      clear h8
      go_enter Tryz.func95, Tryz.ntmps95
      go_wp2_with fail
      go_ret
      exact ⟨ret_bool R.out.symm, rfl⟩
  · have R := Lib.hid (show decide (okM i) = false from decide_eq_false fun h => h0 h.1)
    have d : decide (0 ≤ i) = false := decide_eq_false h0
    clear h0
    go_enter Tryz.func95, Tryz.ntmps95
    go_wp2_with fail
    go_ret
    exact ⟨ret_bool R.out.symm, rfl⟩

end Go.Proofs.YtkhalnjgbdpfhaaGreat.S15
namespace Go.Proofs.YtkhalnjgbdpfhaaGreat.S15
set_option maxRecDepth 100000
open Go.RowKit

/-- Valid, whatever the length. -/
theorem valid_all_any (s : ByteArray) (w : World) : Calls Tryz.prog 78 #[.string s] w fun e w' => e = .returned (.bool (validB s.data.toList)) ∧ w = w' := by
  by_cases hs : s.size ≤ 1099511627776
  · exact valid_any s hs w
  have e := valid_long s (by omega)
  have he : s.toList.isEmpty = false := by rw [nil_iff, decide_eq_false_iff_not]; omega
  have g : (32 : Int) < (s.size : Int) := by omega
  clear hs
  rw [e]
  go_enter Tryz.func78, Tryz.ntmps78
  go_wp2_with fail
  go_ret
  exact ⟨rfl, rfl⟩
theorem valid_small {s : ByteArray} {id : List UInt8} (hs : str id = s) (hv : validB id = true) : s.size ≤ 32 := by
  rw [← hs, size_str]
  exact valid_le hv
set_option maxRecDepth 100000 in
set_option maxHeartbeats 4000000 in
theorem kroute_any (id : List UInt8) (m : Int) (f : Bool) (s : ByteArray) (hs : str id = s) (b : Nat) (ls : List (List UInt8)) (w : World) (hm : MapB w b ls) :
    Calls Tryz.prog 74 #[.agg #[.string s, .int .i64 m, .bool f], .map (some b)] w fun e w' => e = .returned (.int .i64 (badR ls (id, m, f))) ∧ Below w.heap.size w w' := by
  have hid : s.data.toList = id := by rw [← hs]
  obtain ⟨w7, hw7⟩ : ∃ W, w.alloc (.cells #[.string s, .int .i64 m, .bool f] 63 (0, 0)) = W := ⟨_, rfl⟩
  obtain ⟨b7, p0, p1, p2, -⟩ := box_rt hw7
  have V := Lib.hid (valid_all_any s w7)
  rw [hid] at V
  have B7 := Lib.hid b7
  cases hv : validB id with
  | false =>
    have R := Lib.hid (badR_name (seen := ls) (x := (id, m, f)) hv)
    rw [hv] at V
    clear hv b7 hm hid hs
    go_enter Tryz.func74, Tryz.ntmps74
    go_wp2_with fail
    refine V.out.mono ?_
    rintro e w' ⟨rfl, rfl⟩
    go_wp2_with fail
    go_ret
    exact ⟨ret_int R.out.symm, B7.out⟩
  | true =>
    have lk := (hm.below b7).look s id hid (by have := valid_small hs hv; omega)
    rw [hv] at V
    clear b7 hm hid hs
    by_cases hd : id ∈ ls
    · have R := Lib.hid (badR_twice (x := (id, m, f)) hv hd)
      rw [decide_eq_true hd] at lk
      clear hv hd
      go_enter Tryz.func74, Tryz.ntmps74
      go_wp2_with fail
      refine V.out.mono ?_
      rintro e w' ⟨rfl, rfl⟩
      go_wp2_with fail
      go_ret
      exact ⟨ret_int R.out.symm, B7.out⟩
    · rw [decide_eq_false hd] at lk
      have E := Lib.hid (fun W => every_any m W)
      by_cases h1 : okM m
      · have R := Lib.hid (badR_none (x := (id, m, f)) hv hd h1)
        rw [decide_eq_true h1] at E
        clear hv hd h1
        go_enter Tryz.func74, Tryz.ntmps74
        go_wp2_with fail
        refine V.out.mono ?_
        rintro e w' ⟨rfl, rfl⟩
        go_wp2_with fail
        refine (E.out _).mono ?_
        rintro e w' ⟨rfl, rfl⟩
        go_wp2_with fail
        go_ret
        exact ⟨ret_int R.out.symm, B7.out⟩
      · have R := Lib.hid (badR_mode (x := (id, m, f)) hv hd h1)
        rw [decide_eq_false h1] at E
        clear hv hd h1
        go_enter Tryz.func74, Tryz.ntmps74
        go_wp2_with fail
        refine V.out.mono ?_
        rintro e w' ⟨rfl, rfl⟩
        go_wp2_with fail
        refine (E.out _).mono ?_
        rintro e w' ⟨rfl, rfl⟩
        go_wp2_with fail
        go_ret
        exact ⟨ret_int R.out.symm, B7.out⟩
set_option maxRecDepth 100000 in
set_option maxHeartbeats 4000000 in
theorem kcheck_any (v : Value) (l : List Rt) (hl : l.length ≤ 9223372036854775807) (w : World) (h : LstR w v l) : Calls Tryz.prog 44 #[v] w fun e w' => e = .returned (.tuple #[.int .i64 ((chkR l).1), .int .i64 ((chkR l).2)]) ∧ Below w.heap.size w w' := by
  have H := Lib.hid h
  obtain ⟨A, c, rfl, -, -, -⟩ := h
  by_cases h64 : 64 < l.length
  · have R := Lib.hid (chkR_many h64)
    have g : (64 : Int) < (l.length : Int) := by omega
    generalize chkR l = q at R ⊢
    clear h64
    go_enter Tryz.func44, Tryz.ntmps44
    go_wp2_with fail
    go_ret2
    exact ⟨ret_chk (by rw [R.out]) (by rw [R.out]), Below.refl _ _⟩
  have g : decide ((64 : Int) < (l.length : Int)) = false := by rw [decide_eq_false_iff_not]; omega
  have ST := Lib.hid (chkR_start (l := l) (by omega))
  have h64' : l.length ≤ 64 := by omega
  have hmm := @run_makeMap Tryz.prog
  obtain ⟨q, hq⟩ : ∃ q, chkR l = q := ⟨_, rfl⟩
  rw [hq]
  have HQ := Lib.hid hq
  clear h64 hq
  go_enter Tryz.func44, Tryz.ntmps44
  go_wp2_with fail
  go_loopw [14] (fun i wr => ∃ k : Nat, i = .int .i64 k ∧ k ≤ l.length ∧ Hid (chkR l = fbF badR idR ((l.take k).map idR) k (l.drop k)) ∧ Hid (MapB wr w.heap.size ((l.take k).map idR)) ∧ Hid (Below w.heap.size w wr)) (fun i _ => l.length - (intOf i).toNat)
  case atStart => exact ⟨0, rfl, Nat.zero_le _, ST, Lib.hid (MapB.made w), Lib.hid ((Below.refl _ _).alloc (Nat.le_refl _) _)⟩
  case round =>
    clear g ST hmm
    obtain ⟨k, rfl, hk, hz, HM, HB⟩ := hrel
    by_cases hlt : k < l.length
    · obtain ⟨⟨id, m, f⟩, hx⟩ := at_lt hlt
      obtain ⟨nm, hnm⟩ : ∃ nm, str id = nm := ⟨_, rfl⟩
      obtain ⟨b, o, rfl, hb, r0, r1, r2⟩ := three_at (H.out.below HB.out) hx hnm
      have gk : (k : Int) < (l.length : Int) := by omega
      obtain ⟨w7, hw7⟩ : ∃ W, wr.alloc (.cells #[.string nm, .int .i64 m, .bool f] 63 (0, 0)) = W := ⟨_, rfl⟩
      obtain ⟨b7, p0, p1, p2, s7⟩ := box_rt hw7
      have B7 : Hid (Below w.heap.size w w7) := HB.out.trans (b7.mono HB.out.size)
      have M7 := Lib.hid (HM.out.below b7)
      have C := Lib.hid (kroute_any id m f nm hnm w.heap.size ((l.take k).map idR) w7 M7.out)
      by_cases he : badR ((l.take k).map idR) (id, m, f) = 0
      · have N := Lib.hid (fb_next hz.out hx he)
        have T := Lib.hid (key_take (key := idR) hx)
        have hil : ((l.take k).map idR).length ≤ 64 := by rw [List.length_map, List.length_take]; omega
        have hid : Hid (nm.data.toList = id) := by show _ = _; rw [← hnm]
        have hsz := valid_small hnm (badR_valid he)
        rw [he] at C
        simp only [idR] at T
        clear hx hz HB HM b7 hnm hb he
        go_wp2_with fail
        refine C.out.mono ?_
        rintro e w8 ⟨rfl, b8⟩
        have q0 := (b8.cell (p := ⟨wr.heap.size, 0, none⟩) s7).trans p0
        have B8 : Hid (Below w.heap.size w w8) := B7.out.trans (b8.mono B7.out.size)
        have M8 := Lib.hid (M7.out.below b8)
        clear b8 p0 p1 p2 B7 M7 C
        go_wp2_with (at_mapUpdate; refine put_bool _ rfl _ _ _ rfl w.heap.size ((l.take k).map idR) rfl M8.out nm id hid.out (by omega) rfl rfl (by omega) ?_; intro w9 m9 g9)
        have M : Hid (MapB w9 w.heap.size ((l.take (k + 1)).map idR)) := by
          show MapB _ _ _
          rw [T.out]
          exact m9
        have B : Hid (Below w.heap.size w w9) := B8.out.grown g9 B8.out.size (fun j hj => by cases hj; exact Nat.le_refl _)
        clear m9 g9 M8 B8
        go_wp2_with fail
        go_roundw
        case rel => exact ⟨k + 1, by go_num, by omega, N, M, B⟩
        case measure => simp [intOf]; omega
      · have R := Lib.hid (fb_stop hz.out hx rfl he)
        have ne := bne_true he
        generalize badR ((l.take k).map idR) (id, m, f) = y at C R ne
        clear hx hz HB HM b7 hnm hb he
        go_wp2_with fail
        refine C.out.mono ?_
        rintro e w8 ⟨rfl, b8⟩
        have B8 : Hid (Below w.heap.size w w8) := B7.out.trans (b8.mono B7.out.size)
        clear b8 B7 C p0 p1 p2
        go_wp2_with fail
        go_ret2
        exact ⟨ret_chk (by rw [← HQ.out, R.out]) (by rw [← HQ.out, R.out]), B8.out⟩
    · have R := Lib.hid (fb_done hz.out (by omega))
      have d : decide (k < l.length) = false := by rw [decide_eq_false_iff_not]; exact hlt
      clear hz hlt HM
      go_wp2_with fail
      go_ret2
      exact ⟨ret_chk (by rw [← HQ.out, R.out]) (by rw [← HQ.out, R.out]), HB.out⟩
end Go.Proofs.YtkhalnjgbdpfhaaGreat.S15
namespace Go.Proofs.YtkhalnjgbdpfhaaGreat.S15
set_option maxRecDepth 100000
open Go.RowKit

set_option maxRecDepth 100000 in
set_option maxHeartbeats 4000000 in
theorem rcheck_any (v : Value) (l : List Rt) (hl : l.length ≤ 9223372036854775807) (w : World) (h : LstR w v l) : Calls Tryz.prog 62 #[v] w fun e w' => e = .returned (.tuple #[.int .i64 ((chkR l).1), .int .i64 ((chkR l).2)]) ∧ ∃ m, w' = w.drewN m := by
  have H := Lib.hid h
  obtain ⟨A, c, rfl, -, -, -⟩ := h
  by_cases h64 : 64 < l.length
  · have R := Lib.hid (chkR_many h64)
    have g : (64 : Int) < (l.length : Int) := by omega
    generalize chkR l = q at R ⊢
    clear h64
    go_enter Tryz.func62, Tryz.ntmps62
    go_wp2_with fail
    go_ret2
    exact ⟨ret_chk (by rw [R.out]) (by rw [R.out]), 0, rfl⟩
  have g : decide ((64 : Int) < (l.length : Int)) = false := by rw [decide_eq_false_iff_not]; omega
  have ST := Lib.hid (chkR_start (l := l) (by omega))
  have h64' : l.length ≤ 64 := by omega
  generalize chkR l = q at ST ⊢
  clear h64
  go_enter Tryz.func62, Tryz.ntmps62
  go_wp2_with fail
  go_loopw [4] (fun i wr => ∃ k : Nat, i = .int .i64 k ∧ k ≤ l.length ∧ Hid (q = fbF badR idR ((l.take k).map idR) k (l.drop k)) ∧ Hid (∃ n, wr = w.drewN n)) (fun i _ => l.length - (intOf i).toNat)
  case atStart => exact ⟨0, rfl, Nat.zero_le _, ST, Lib.hid ⟨0, rfl⟩⟩
  case round =>
    clear g ST
    obtain ⟨k, rfl, hk, hz, hn⟩ := hrel
    by_cases hlt : k < l.length
    · obtain ⟨⟨id, m, f⟩, hx⟩ := at_lt hlt
      obtain ⟨nm, hnm⟩ : ∃ nm, str id = nm := ⟨_, rfl⟩
      obtain ⟨b, o, rfl, hb, r0, r1, -⟩ := three_at (H.out.below (drew_below hn.out)) hx hnm
      have gk : (k : Int) < (l.length : Int) := by omega
      have hid : nm.data.toList = id := by rw [← hnm]
      have V := Lib.hid (fun W => rname_all_any nm W)
      rw [hid] at V
      cases hv : validB id with
      | false =>
        have R := Lib.hid (fb_stop hz.out hx (badR_name (seen := (l.take k).map idR) (x := (id, m, f)) hv) (by decide))
        rw [hv] at V
        clear hx hz hnm hb hid hv r1
        go_wp2_with fail
        refine (V.out _).mono ?_
        rintro e w' ⟨rfl, rfl⟩
        go_wp2_with fail
        go_ret2
        exact ⟨ret_chk (by rw [R.out]) (by rw [R.out]), hn.out⟩
      | true =>
        rw [hv] at V
        have HX := Lib.hid hx
        have HNM := Lib.hid hnm
        have HV := Lib.hid hv
        clear hx hid hv hnm hb r1
        go_wp2_with fail
        refine (V.out _).mono ?_
        rintro e w' ⟨rfl, rfl⟩
        clear V r0
        go_wp2_with fail
        go_loopw [5] (fun i wr => ∃ j : Nat, i = .int .i64 j ∧ j ≤ k ∧ Hid (∀ (t' : Nat) (x : Rt), t' < j → l[t']? = some x → idR x ≠ id) ∧ Hid (∃ n, wr = w.drewN n)) (fun i _ => k - (intOf i).toNat)
        case atStart => exact ⟨0, rfl, Nat.zero_le _, Lib.hid (fun t' x ht => absurd ht (Nat.not_lt_zero _)), hn⟩
        case round =>
          clear hn
          obtain ⟨j, rfl, hj, hall, hn⟩ := hrel
          by_cases hjk : j < k
          · obtain ⟨⟨id2, m2, f2⟩, hy⟩ := at_lt (show j < l.length by omega)
            obtain ⟨nm2, hnm2⟩ : ∃ nm, str id2 = nm := ⟨_, rfl⟩
            obtain ⟨b1, o1, e1, hb1, r0, -, -⟩ := three_at (H.out.below (drew_below hn.out)) HX.out HNM.out
            obtain ⟨b2, o2, e2, hb2, s0, -, -⟩ := three_at (H.out.below (drew_below hn.out)) hy hnm2
            cases e1
            cases e2
            have gj : (j : Int) < (l.length : Int) := by omega
            have gj2 : (j : Int) < (k : Int) := by omega
            by_cases hid : id2 = id
            · have R := Lib.hid (fb_stop hz.out HX.out (badR_twice (seen := (l.take k).map idR) (x := (id, m, f)) HV.out (keys_hit hjk hy hid)) (by decide))
              have eb := bytes_eq (show nm2 = nm by rw [← hnm2, ← HNM.out, hid])
              clear hz hy hnm2 hb1 hb2 hid hall HX HNM HV
              go_wp2_with fail
              go_quiet (fail)
              go_wp2_with fail
              go_ret2
              exact ⟨ret_chk (by rw [R.out]) (by rw [R.out]), (drew_on hn nq).out⟩
            · have N : Hid (∀ (t' : Nat) (x : Rt), t' < j + 1 → l[t']? = some x → idR x ≠ id) := by
                intro t' x ht hx
                by_cases e : t' = j
                · subst e
                  rw [hy] at hx
                  obtain rfl := Option.some.inj hx
                  exact hid
                · exact hall.out t' x (by omega) hx
              have eb := bytes_ne (str_ne hnm2 HNM.out hid)
              clear hy hnm2 hb1 hb2 hid hall
              go_wp2_with fail
              go_quiet (fail)
              go_wp2_with fail
              go_roundw
              case rel => exact ⟨j + 1, by go_num, by omega, N, drew_on hn nq⟩
              case measure => simp [intOf]; omega
          · have dj : decide (j < k) = false := by rw [decide_eq_false_iff_not]; exact hjk
            have NM : id ∉ (l.take k).map idR := keys_none fun t' x ht hx => hall.out t' x (by omega) hx
            obtain ⟨b1, o1, e1, hb1, -, r1, -⟩ := three_at (H.out.below (drew_below hn.out)) HX.out HNM.out
            cases e1
            have RF := Lib.hid (fun hf => fb_stop hz.out HX.out (badR_mode (x := (id, m, f)) HV.out NM hf) (by decide))
            have RN := Lib.hid (fun hf => fb_next hz.out HX.out (badR_none (x := (id, m, f)) HV.out NM hf))
            simp only at RF RN
            have M := Lib.hid (fun W => rmode_any m W)
            clear hz hall NM hjk HX HNM HV hb1
            by_cases h1 : okM m
            · have N := Lib.hid (RN.out h1)
              rw [decide_eq_true h1] at M
              clear RF RN h1
              go_wp2_with fail
              refine (M.out _).mono ?_
              rintro e w' ⟨rfl, rfl⟩
              go_wp2_with fail
              go_roundw
              case rel => exact ⟨k + 1, by go_num, by omega, N, hn⟩
              case measure => simp [intOf]; omega
            · have R := Lib.hid (RF.out h1)
              rw [decide_eq_false h1] at M
              clear RF RN h1
              go_wp2_with fail
              refine (M.out _).mono ?_
              rintro e w' ⟨rfl, rfl⟩
              go_wp2_with fail
              go_ret2
              exact ⟨ret_chk (by rw [R.out]) (by rw [R.out]), hn.out⟩
    · have R := Lib.hid (fb_done hz.out (by omega))
      have d : decide (k < l.length) = false := by rw [decide_eq_false_iff_not]; exact hlt
      clear hz hlt
      go_wp2_with fail
      go_ret2
      exact ⟨ret_chk (by rw [R.out]) (by rw [R.out]), hn.out⟩
end Go.Proofs.YtkhalnjgbdpfhaaGreat.S15
namespace Go.Proofs.YtkhalnjgbdpfhaaGreat.S15
set_option maxRecDepth 100000
open Go.RowKit Go.ChangeShapes Go.WideShapes Go.Deep

theorem trod_route {H : Type} {enc : TypeId × Value → H} {W : World} {n : Nat} {cs : List Value} {x : DataW H × List MemPlace} (h : DataW.trod enc Tryz.prog W 0 (fun _ => true) true n 63 cs = some x) : ∃ a : Rt, (-9223372036854775808 ≤ a.2.1 ∧ a.2.1 ≤ 9223372036854775807) ∧ cs = re a := by
  obtain ⟨y0, y1, y2, n, _, hl, h0, h1, h2⟩ := trod_struct3 Tryz.underlying63 h
  rw [show Tryz.prog.cellsOf 63 = 3 by kernel_rfl] at hl
  match cs, hl with
  | [c0, c1, c2], _ =>
    simp only [show Tryz.prog.cellsOf 9 = 1 by kernel_rfl, show Tryz.prog.cellsOf 3 = 1 by kernel_rfl, show Tryz.prog.cellsOf 4 = 1 by kernel_rfl] at h0 h1 h2
    obtain ⟨s, e0, -⟩ := DataW.trod_string Tryz.underlying9 h0
    obtain ⟨z, e1, _, w1⟩ := DataW.trod_int Tryz.underlying3 h1
    obtain ⟨f, e2, -⟩ := DataW.trod_bool Tryz.underlying4 h2
    simp at e0 e1 e2
    subst e0 e1 e2
    refine ⟨(s.data.toList, z, f), ⟨int_low w1, int_top w1⟩, ?_⟩
    unfold re
    rw [str_list]
end Go.Proofs.YtkhalnjgbdpfhaaGreat.S15
