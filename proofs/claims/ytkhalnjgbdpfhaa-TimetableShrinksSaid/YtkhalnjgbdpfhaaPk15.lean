/-
  The reference's List and Min of a set of small ints: what each call answers; nothing that existed before the call has changed behind it. Condition: words below 2^64. The iterator of package bitset: what it hands to a loop's body. Condition: words below 2^64. All and List of package bitset: the iterator that a call hands back, and the list of the elements; nothing that existed before the call has changed behind it. Condition: words below 2^64; the table of math/bits as its initialiser lays it. A slice of routes in memory: the cells of a route, a route put into a box of its own; the table of the modes' names, which the program lays once. Condition: none beyond each theorem's own hypotheses. ModeName and ParseMode of package route, Names, ParseMode and mode of its reference: what each call answers; nothing that existed before the call has changed behind it. Condition: the table of the names as its initialiser lays it. The code's checkRoute, Check, Find of tables of routes: what each call answers; nothing that existed before the call has changed behind it. Condition: lists of fewer than 2^63 routes. The reference's Check and Find of tables of routes: what each call answers; it only draws. Condition: lists of fewer than 2^63 routes. A route among the arguments. Condition: none beyond each theorem's own hypotheses.
-/
import Derived.Test.YtkhalnjgbdpfhaaShB
import Derived.Test.YtkhalnjgbdpfhaaShA
import Derived.RangeFuncNested
import Derived.RangeFuncBound
import Derived.RangeFuncCalls
import Derived.RangeFuncLeaves
import Derived.Shelf.Abstract
import Derived.Shelf.RegionOpen
import Derived.OwnWalkIn
import Derived.TacticsInMore
import Derived.LoopNIn
import Derived.LoopIn
import Derived.Maps.AppendAt
import Derived.ScopeJumps
import Derived.RangeFuncBox
import Derived.Test.YtkhalnjgbdpfhaaMap
import Derived.Test.YtkhalnjgbdpfhaaShV
import Derived.Test.YtkhalnjgbdpfhaaShP
import Derived.Laws.Rows
import Derived.Test.YtkhalnjgbdpfhaaJId
import Derived.Deep.Strs
import Derived.Lib.SmallJoins
namespace Go.Proofs.Ytkhalnjgbdpfhaa.S15
set_option maxRecDepth 100000
open Go.RowKit

theorem OwnI.alloc {w : World} {base : Nat} {v : Value} {l : List Int} (h : OwnI w base v l) (o : Obj) : OwnI (w.alloc o) base v l := World.ownsRow.alloc h o
end Go.Proofs.Ytkhalnjgbdpfhaa.S15
namespace Go.Proofs.Ytkhalnjgbdpfhaa.S15
set_option maxRecDepth 100000
open Go.RowKit
attribute [local go_sem] Oper.semAt_some
end Go.Proofs.Ytkhalnjgbdpfhaa.S15
namespace Go.Proofs.Ytkhalnjgbdpfhaa.S15
set_option maxRecDepth 100000
open Go.RowKit
attribute [local go_sem] Oper.semAt_some

end Go.Proofs.Ytkhalnjgbdpfhaa.S15
namespace Go.Proofs.Ytkhalnjgbdpfhaa.S15
set_option maxRecDepth 100000
open Go.RowKit

/-- A route as cells. -/
def re (x : Rt) : List Value := [.string (str x.1), .int .i64 x.2.1, .bool x.2.2]
theorem re_len (x : Rt) : (re x).length = 3 := rfl
abbrev LstR := @LstG Rt re
/-- The three cells of a route. -/
theorem three_at {w : World} {A : Option Addr} {n c : Nat} {l : List Rt} (h : LstR w (.slice A n c) l) {i : Nat} {id : List UInt8} {m : Int} {f : Bool} (hs : l[i]? = some (id, m, f)) {s : ByteArray} (hst : str id = s) :
    ∃ b o, A = some ⟨b, o, none⟩ ∧ b < w.heap.size ∧ w.cell? ⟨b, o + i * 3, none⟩ = some (.string s) ∧ w.cell? ⟨b, o + i * 3 + 1, none⟩ = some (.int .i64 m) ∧ w.cell? ⟨b, o + i * 3 + 2, none⟩ = some (.bool f) := by
  subst hst
  obtain ⟨A', c', hv, _, _, hx⟩ := h
  cases hv
  have hi := (List.getElem?_eq_some_iff.1 hs).1
  obtain ⟨b, o, rfl, hb, hcell⟩ := hx (by omega)
  refine ⟨b, o, rfl, hb, hcell (i * 3) _ (by rw [← Nat.add_zero (i * 3), fl_at re_len hs 0 (by omega)]; rfl), (hcell (i * 3 + 1) _ (by rw [fl_at re_len hs 1 (by omega)]; rfl) : _), (hcell (i * 3 + 2) _ (by rw [fl_at re_len hs 2 (by omega)]; rfl) : _)⟩
/-- A route in a box. -/
abbrev boxR (s : ByteArray) (m : Int) (f : Bool) : Obj := .cells #[.string s, .int .i64 m, .bool f] 68 (0, 0)
theorem box_rt {w w7 : World} {s : ByteArray} {m : Int} {f : Bool} (h : w.alloc (boxR s m f) = w7) :
    Below w.heap.size w w7 ∧ w7.cell? ⟨w.heap.size, 0, none⟩ = some (.string s) ∧ w7.cell? ⟨w.heap.size, 1, none⟩ = some (.int .i64 m) ∧ w7.cell? ⟨w.heap.size, 2, none⟩ = some (.bool f) ∧ w.heap.size < w7.heap.size := by
  subst h
  have c7 := heap_alloc_new w (boxR s m f)
  exact ⟨(Below.refl _ _).alloc (Nat.le_refl _) _, by rw [cell_of_row _ _ 0 _ _ _ c7]; rfl, by rw [cell_of_row _ _ 1 _ _ _ c7]; rfl, by rw [cell_of_row _ _ 2 _ _ _ c7]; rfl, by simp⟩
theorem ret_chk {a b c d : Int} (h : a = b) (k : c = d) : Ending.returned (.tuple #[.int .i64 a, .int .i64 c]) = .returned (.tuple #[.int .i64 b, .int .i64 d]) := by rw [h, k]
end Go.Proofs.Ytkhalnjgbdpfhaa.S15
namespace Go.Proofs.Ytkhalnjgbdpfhaa.S15
set_option maxRecDepth 100000
open Go.RowKit

/-- Whether an int is a mode, asked of the set of all. -/
theorem has_mode (i : Int) : hasB 255 i = decide (okM i) := by
  unfold hasB
  rw [show (255 : Nat) = 2 ^ 8 - 1 by rfl, Nat.testBit_two_pow_sub_one, Bool.eq_iff_iff, Bool.and_eq_true, decide_eq_true_iff, decide_eq_true_iff, decide_eq_true_iff]
  unfold okM
  omega
theorem every_any (i : Int) (w : World) : Calls Try.prog 53 #[.int .u64 255, .int .i64 i] w fun e w' => e = .returned (.bool (decide (okM i))) ∧ w = w' := by
  have h := has_any 255 (by decide) i w
  rw [has_mode] at h
  exact h
end Go.Proofs.Ytkhalnjgbdpfhaa.S15
namespace Go.Proofs.Ytkhalnjgbdpfhaa.S15
set_option maxRecDepth 100000
open Go.RowKit

/-- Valid, whatever the length. -/
theorem valid_all_any (s : ByteArray) (w : World) : Calls Try.prog 39 #[.string s] w fun e w' => e = .returned (.bool (validB s.data.toList)) ∧ w = w' := by
  by_cases hs : s.size ≤ 1099511627776
  · exact valid_any s hs w
  have e := valid_long s (by omega)
  have he : s.toList.isEmpty = false := by rw [nil_iff, decide_eq_false_iff_not]; omega
  have g : (32 : Int) < (s.size : Int) := by omega
  clear hs
  rw [e]
  go_enter Try.func39, Try.ntmps39
  go_wp2_with fail
  go_ret
  exact ⟨rfl, rfl⟩
theorem valid_small {s : ByteArray} {id : List UInt8} (hs : str id = s) (hv : validB id = true) : s.size ≤ 32 := by
  rw [← hs, size_str]
  exact valid_le hv
set_option maxRecDepth 100000 in
set_option maxHeartbeats 4000000 in
theorem kroute_any (id : List UInt8) (m : Int) (f : Bool) (s : ByteArray) (hs : str id = s) (b : Nat) (ls : List (List UInt8)) (w : World) (hm : MapB w b ls) :
    Calls Try.prog 35 #[.agg #[.string s, .int .i64 m, .bool f], .map (some b)] w fun e w' => e = .returned (.int .i64 (badR ls (id, m, f))) ∧ Below w.heap.size w w' := by
  have hid : s.data.toList = id := by rw [← hs]
  obtain ⟨w7, hw7⟩ : ∃ W, w.alloc (.cells #[.string s, .int .i64 m, .bool f] 68 (0, 0)) = W := ⟨_, rfl⟩
  obtain ⟨b7, p0, p1, p2, -⟩ := box_rt hw7
  have V := Lib.hid (valid_all_any s w7)
  rw [hid] at V
  have B7 := Lib.hid b7
  cases hv : validB id with
  | false =>
    have R := Lib.hid (badR_name (seen := ls) (x := (id, m, f)) hv)
    rw [hv] at V
    clear hv b7 hm hid hs
    go_enter Try.func35, Try.ntmps35
    go_wp2_with fail
    refine V.out.mono ?_
    rintro e w' ⟨rfl, rfl⟩
    go_wp2_with fail
    go_ret
    exact ⟨ret_int R.out.symm, B7.out⟩
  | true =>
    have lk := (hm.below b7).look s id hid (by have := valid_small hs hv; omega)
    rw [hv] at V
    clear b7 hm hid hs
    by_cases hd : id ∈ ls
    · have R := Lib.hid (badR_twice (x := (id, m, f)) hv hd)
      rw [decide_eq_true hd] at lk
      clear hv hd
      go_enter Try.func35, Try.ntmps35
      go_wp2_with fail
      refine V.out.mono ?_
      rintro e w' ⟨rfl, rfl⟩
      go_wp2_with fail
      go_ret
      exact ⟨ret_int R.out.symm, B7.out⟩
    · rw [decide_eq_false hd] at lk
      have E := Lib.hid (fun W => every_any m W)
      by_cases h1 : okM m
      · have R := Lib.hid (badR_none (x := (id, m, f)) hv hd h1)
        rw [decide_eq_true h1] at E
        clear hv hd h1
        go_enter Try.func35, Try.ntmps35
        go_wp2_with fail
        refine V.out.mono ?_
        rintro e w' ⟨rfl, rfl⟩
        go_wp2_with fail
        refine (E.out _).mono ?_
        rintro e w' ⟨rfl, rfl⟩
        go_wp2_with fail
        go_ret
        exact ⟨ret_int R.out.symm, B7.out⟩
      · have R := Lib.hid (badR_mode (x := (id, m, f)) hv hd h1)
        rw [decide_eq_false h1] at E
        clear hv hd h1
        go_enter Try.func35, Try.ntmps35
        go_wp2_with fail
        refine V.out.mono ?_
        rintro e w' ⟨rfl, rfl⟩
        go_wp2_with fail
        refine (E.out _).mono ?_
        rintro e w' ⟨rfl, rfl⟩
        go_wp2_with fail
        go_ret
        exact ⟨ret_int R.out.symm, B7.out⟩
set_option maxRecDepth 100000 in
set_option maxHeartbeats 4000000 in
theorem kcheck_any (v : Value) (l : List Rt) (hl : l.length ≤ 9223372036854775807) (w : World) (h : LstR w v l) : Calls Try.prog 15 #[v] w fun e w' => e = .returned (.tuple #[.int .i64 ((chkR l).1), .int .i64 ((chkR l).2)]) ∧ Below w.heap.size w w' := by
  have H := Lib.hid h
  obtain ⟨A, c, rfl, -, -, -⟩ := h
  by_cases h64 : 64 < l.length
  · have R := Lib.hid (chkR_many h64)
    have g : (64 : Int) < (l.length : Int) := by omega
    generalize chkR l = q at R ⊢
    clear h64
    go_enter Try.func15, Try.ntmps15
    go_wp2_with fail
    go_ret2
    exact ⟨ret_chk (by rw [R.out]) (by rw [R.out]), Below.refl _ _⟩
  have g : decide ((64 : Int) < (l.length : Int)) = false := by rw [decide_eq_false_iff_not]; omega
  have ST := Lib.hid (chkR_start (l := l) (by omega))
  have h64' : l.length ≤ 64 := by omega
  have hmm := @run_makeMap Try.prog
  obtain ⟨q, hq⟩ : ∃ q, chkR l = q := ⟨_, rfl⟩
  rw [hq]
  have HQ := Lib.hid hq
  clear h64 hq
  go_enter Try.func15, Try.ntmps15
  go_wp2_with fail
  go_loopw [14] (fun i wr => ∃ k : Nat, i = .int .i64 k ∧ k ≤ l.length ∧ Hid (chkR l = fbF badR idR ((l.take k).map idR) k (l.drop k)) ∧ Hid (MapB wr w.heap.size ((l.take k).map idR)) ∧ Hid (Below w.heap.size w wr)) (fun i _ => l.length - (intOf i).toNat)
  case atStart => exact ⟨0, rfl, Nat.zero_le _, ST, Lib.hid (MapB.made w), Lib.hid ((Below.refl _ _).alloc (Nat.le_refl _) _)⟩
  case round =>
    clear g ST hmm
    obtain ⟨k, rfl, hk, hz, HM, HB⟩ := hrel
    by_cases hlt : k < l.length
    · obtain ⟨⟨id, m, f⟩, hx⟩ := at_lt hlt
      obtain ⟨nm, hnm⟩ : ∃ nm, str id = nm := ⟨_, rfl⟩
      obtain ⟨b, o, rfl, hb, r0, r1, r2⟩ := three_at (H.out.below HB.out) hx hnm
      have gk : (k : Int) < (l.length : Int) := by omega
      obtain ⟨w7, hw7⟩ : ∃ W, wr.alloc (.cells #[.string nm, .int .i64 m, .bool f] 68 (0, 0)) = W := ⟨_, rfl⟩
      obtain ⟨b7, p0, p1, p2, s7⟩ := box_rt hw7
      have B7 : Hid (Below w.heap.size w w7) := HB.out.trans (b7.mono HB.out.size)
      have M7 := Lib.hid (HM.out.below b7)
      have C := Lib.hid (kroute_any id m f nm hnm w.heap.size ((l.take k).map idR) w7 M7.out)
      by_cases he : badR ((l.take k).map idR) (id, m, f) = 0
      · have N := Lib.hid (fb_next hz.out hx he)
        have T := Lib.hid (key_take (key := idR) hx)
        have hil : ((l.take k).map idR).length ≤ 64 := by rw [List.length_map, List.length_take]; omega
        have hid : Hid (nm.data.toList = id) := by show _ = _; rw [← hnm]
        have hsz := valid_small hnm (badR_valid he)
        rw [he] at C
        simp only [idR] at T
        clear hx hz HB HM b7 hnm hb he
        go_wp2_with fail
        refine C.out.mono ?_
        rintro e w8 ⟨rfl, b8⟩
        have q0 := (b8.cell (p := ⟨wr.heap.size, 0, none⟩) s7).trans p0
        have B8 : Hid (Below w.heap.size w w8) := B7.out.trans (b8.mono B7.out.size)
        have M8 := Lib.hid (M7.out.below b8)
        clear b8 p0 p1 p2 B7 M7 C
        go_wp2_with (at_mapUpdate; refine put_bool _ rfl _ _ _ rfl w.heap.size ((l.take k).map idR) rfl M8.out nm id hid.out (by omega) rfl rfl (by omega) ?_; intro w9 m9 g9)
        have M : Hid (MapB w9 w.heap.size ((l.take (k + 1)).map idR)) := by
          show MapB _ _ _
          rw [T.out]
          exact m9
        have B : Hid (Below w.heap.size w w9) := B8.out.grown g9 B8.out.size (fun j hj => by cases hj; exact Nat.le_refl _)
        clear m9 g9 M8 B8
        go_wp2_with fail
        go_roundw
        case rel => exact ⟨k + 1, by go_num, by omega, N, M, B⟩
        case measure => simp [intOf]; omega
      · have R := Lib.hid (fb_stop hz.out hx rfl he)
        have ne := bne_true he
        generalize badR ((l.take k).map idR) (id, m, f) = y at C R ne
        clear hx hz HB HM b7 hnm hb he
        go_wp2_with fail
        refine C.out.mono ?_
        rintro e w8 ⟨rfl, b8⟩
        have B8 : Hid (Below w.heap.size w w8) := B7.out.trans (b8.mono B7.out.size)
        clear b8 B7 C p0 p1 p2
        go_wp2_with fail
        go_ret2
        exact ⟨ret_chk (by rw [← HQ.out, R.out]) (by rw [← HQ.out, R.out]), B8.out⟩
    · have R := Lib.hid (fb_done hz.out (by omega))
      have d : decide (k < l.length) = false := by rw [decide_eq_false_iff_not]; exact hlt
      clear hz hlt HM
      go_wp2_with fail
      go_ret2
      exact ⟨ret_chk (by rw [← HQ.out, R.out]) (by rw [← HQ.out, R.out]), HB.out⟩
end Go.Proofs.Ytkhalnjgbdpfhaa.S15
namespace Go.Proofs.Ytkhalnjgbdpfhaa.S15
set_option maxRecDepth 100000
open Go.RowKit

end Go.Proofs.Ytkhalnjgbdpfhaa.S15
namespace Go.Proofs.Ytkhalnjgbdpfhaa.S15
set_option maxRecDepth 100000
open Go.RowKit Go.ChangeShapes Go.WideShapes Go.Deep

theorem trod_route {H : Type} {enc : TypeId × Value → H} {W : World} {n : Nat} {cs : List Value} {x : DataW H × List MemPlace} (h : DataW.trod enc Try.prog W 0 (fun _ => true) true n 68 cs = some x) : ∃ a : Rt, (-9223372036854775808 ≤ a.2.1 ∧ a.2.1 ≤ 9223372036854775807) ∧ cs = re a := by
  obtain ⟨y0, y1, y2, n, _, hl, h0, h1, h2⟩ := trod_struct3 Try.underlying68 h
  rw [show Try.prog.cellsOf 68 = 3 by kernel_rfl] at hl
  match cs, hl with
  | [c0, c1, c2], _ =>
    simp only [show Try.prog.cellsOf 9 = 1 by kernel_rfl, show Try.prog.cellsOf 3 = 1 by kernel_rfl, show Try.prog.cellsOf 4 = 1 by kernel_rfl] at h0 h1 h2
    obtain ⟨s, e0, -⟩ := DataW.trod_string Try.underlying9 h0
    obtain ⟨z, e1, _, w1⟩ := DataW.trod_int Try.underlying3 h1
    obtain ⟨f, e2, -⟩ := DataW.trod_bool Try.underlying4 h2
    simp at e0 e1 e2
    subst e0 e1 e2
    refine ⟨(s.data.toList, z, f), ⟨int_low w1, int_top w1⟩, ?_⟩
    unfold re
    rw [str_list]
end Go.Proofs.Ytkhalnjgbdpfhaa.S15
