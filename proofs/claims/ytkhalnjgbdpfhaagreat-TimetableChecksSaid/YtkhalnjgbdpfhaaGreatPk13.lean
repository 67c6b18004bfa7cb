/-
  Plain facts about tables of stops: the first bad stop, the first stop with an identifier, the set of the zones, the stops of a zone, the step-free stops: no program. Condition: none beyond each theorem's own hypotheses. A slice of stops in memory: the cells of a stop, a stop put into a box of its own; an index appended to a list. Condition: none beyond each theorem's own hypotheses. The code's checkStop and Check of tables of stops: what each call answers; nothing that existed before the call has changed behind it. Condition: identifiers of at most 2^20 bytes. The reference's Find, Zones, InZone, StepFree of tables of stops: what each call answers; nothing that existed before the call has changed behind it. Condition: lists of fewer than 2^40 stops. The reference's Identifier: what the call answers; the world is as it was. Condition: a string of at most 2^40 bytes. The reference's Check of tables of stops, and the laws' helper small: what each call answers; nothing that existed before the call has changed behind it. Condition: identifiers of at most 2^20 bytes, for Check. A stop among the arguments. Condition: none beyond each theorem's own hypotheses.
-/
import Derived.Test.YtkhalnjgbdpfhaaGreatShP
import Derived.Test.YtkhalnjgbdpfhaaGreatShA
import Derived.Test.YtkhalnjgbdpfhaaGreatMap
import Derived.Test.YtkhalnjgbdpfhaaGreatShV
import Derived.Test.YtkhalnjgbdpfhaaGreatShB
import Derived.Deep.Strs
import Derived.Lib.SmallJoins
namespace Go.Proofs.YtkhalnjgbdpfhaaGreat.S13
set_option maxRecDepth 100000
open Go

/-- A stop: its identifier, its zone, whether it is step-free, its change time. -/
abbrev St := List UInt8 × Int × Bool × Int
/-- The identifiers. -/
def idsS (l : List St) : List (List UInt8) := l.map fun x => x.1
theorem ids_len (l : List St) : (idsS l).length = l.length := by unfold idsS; rw [List.length_map]
theorem ids_take {l : List St} {k : Nat} {x : St} (h : l[k]? = some x) : idsS (l.take (k + 1)) = idsS (l.take k) ++ [x.1] := by
  unfold idsS
  rw [take_at l k x h, List.map_append]
  rfl
theorem ids_mem {l : List St} {id : List UInt8} : id ∈ idsS l ↔ ∃ (j : Nat) (x : St), l[j]? = some x ∧ x.1 = id := by
  unfold idsS
  rw [List.mem_map]
  constructor
  · rintro ⟨x, hx, rfl⟩
    obtain ⟨j, hj⟩ := List.mem_iff_getElem?.1 hx
    exact ⟨j, x, hj, rfl⟩
  · rintro ⟨j, x, hx, rfl⟩
    exact ⟨x, List.mem_iff_getElem?.2 ⟨j, hx⟩, rfl⟩

/-! ### Check -/
/-- The zone or the change time is out of its range. -/
def farS (z c : Int) : Prop := z < 0 ∨ 16 ≤ z ∨ c < 0 ∨ 3600 < c
instance (z c : Int) : Decidable (farS z c) := by unfold farS; infer_instance
/-- The error of one stop behind stops with these identifiers. -/
def badS (seen : List (List UInt8)) (x : St) : Int := if validB x.1 = false then 12 else if x.1 ∈ seen then 6 else if farS x.2.1 x.2.2.2 then 2 else 0
theorem bad_name {seen : List (List UInt8)} {x : St} (h : validB x.1 = false) : badS seen x = 12 := by unfold badS; rw [if_pos h]
theorem bad_twice {seen : List (List UInt8)} {x : St} (h : validB x.1 = true) (h2 : x.1 ∈ seen) : badS seen x = 6 := by unfold badS; rw [if_neg (by rw [h]; simp), if_pos h2]
theorem bad_far {seen : List (List UInt8)} {x : St} (h : validB x.1 = true) (h2 : x.1 ∉ seen) (h3 : farS x.2.1 x.2.2.2) : badS seen x = 2 := by unfold badS; rw [if_neg (by rw [h]; simp), if_neg h2, if_pos h3]
theorem bad_none {seen : List (List UInt8)} {x : St} (h : validB x.1 = true) (h2 : x.1 ∉ seen) (h3 : ¬ farS x.2.1 x.2.2.2) : badS seen x = 0 := by unfold badS; rw [if_neg (by rw [h]; simp), if_neg h2, if_neg h3]
/-- The first bad stop from here on. -/
def chkF (seen : List (List UInt8)) (k : Nat) : List St → Int × Int
  | [] => (0, 0)
  | x :: r => if badS seen x = 0 then chkF (seen ++ [x.1]) (k + 1) r else ((k : Int), badS seen x)
/-- What Check answers. -/
def chkT (l : List St) : Int × Int := if 64 < l.length then (0, 5) else chkF [] 0 l
theorem chkT_many {l : List St} (h : 64 < l.length) : chkT l = (0, 5) := by unfold chkT; rw [if_pos h]
theorem chkT_few {l : List St} (h : l.length ≤ 64) : chkT l = chkF [] 0 l := by unfold chkT; rw [if_neg (by omega)]
theorem chkT_start {l : List St} (h : l.length ≤ 64) : chkT l = chkF (idsS (l.take 0)) 0 (l.drop 0) := by rw [chkT_few h]; rfl
theorem chkF_good {seen : List (List UInt8)} {k : Nat} {x : St} {r : List St} (h : badS seen x = 0) : chkF seen k (x :: r) = chkF (seen ++ [x.1]) (k + 1) r := by
  conv => lhs; unfold chkF
  rw [if_pos h]
theorem chkF_bad {seen : List (List UInt8)} {k : Nat} {x : St} {r : List St} (h : badS seen x ≠ 0) : chkF seen k (x :: r) = ((k : Int), badS seen x) := by
  unfold chkF
  rw [if_neg h]
theorem chkT_next {l : List St} {k : Nat} {x : St} (hr : chkT l = chkF (idsS (l.take k)) k (l.drop k)) (h : l[k]? = some x) (hb : badS (idsS (l.take k)) x = 0) : chkT l = chkF (idsS (l.take (k + 1))) (k + 1) (l.drop (k + 1)) := by
  rw [hr, drop_at l k x h, chkF_good hb, ids_take h]
theorem chkT_stop {l : List St} {k : Nat} {x : St} (hr : chkT l = chkF (idsS (l.take k)) k (l.drop k)) (h : l[k]? = some x) {e : Int} (hb : badS (idsS (l.take k)) x = e) (he : e ≠ 0) : chkT l = ((k : Int), e) := by
  rw [hr, drop_at l k x h, chkF_bad (by rw [hb]; exact he), hb]
theorem chkT_done {l : List St} {k : Nat} (hr : chkT l = chkF (idsS (l.take k)) k (l.drop k)) (h : l.length ≤ k) : chkT l = (0, 0) := by
  rw [hr, List.drop_of_length_le h]
  rfl
/-! ### Find -/
/-- The index of the first stop with an identifier from here on, or -1. -/
def fndF (id : List UInt8) (k : Nat) : List St → Int
  | [] => -1
  | x :: r => if x.1 = id then (k : Int) else fndF id (k + 1) r
def fndT (l : List St) (id : List UInt8) : Int := fndF id 0 l
theorem fndF_hit {id : List UInt8} {k : Nat} {l : List St} {x : St} (h : l[k]? = some x) (hx : x.1 = id) : fndF id k (l.drop k) = (k : Int) := by
  rw [drop_at l k x h]
  unfold fndF
  rw [if_pos hx]
theorem fndF_miss {id : List UInt8} {k : Nat} {l : List St} {x : St} (h : l[k]? = some x) (hx : x.1 ≠ id) : fndF id k (l.drop k) = fndF id (k + 1) (l.drop (k + 1)) := by
  rw [drop_at l k x h]
  conv => lhs; unfold fndF
  rw [if_neg hx]
theorem fndF_end {id : List UInt8} {k : Nat} {l : List St} (h : l.length ≤ k) : fndF id k (l.drop k) = -1 := by
  rw [List.drop_of_length_le h]
  rfl
theorem fndF_is : ∀ (l : List St) (id : List UInt8) (k : Nat), (fndF id k l = -1 ∧ id ∉ idsS l) ∨ ∃ (j : Nat) (x : St), l[j]? = some x ∧ x.1 = id ∧ fndF id k l = ((k + j : Nat) : Int) ∧ id ∉ idsS (l.take j)
  | [], _, _ => .inl ⟨rfl, by simp [idsS]⟩
  | y :: r, id, k => by
    by_cases hy : y.1 = id
    · refine .inr ⟨0, y, rfl, hy, ?_, by simp [idsS]⟩
      unfold fndF
      rw [if_pos hy]
      rfl
    · have e : fndF id k (y :: r) = fndF id (k + 1) r := by
        conv => lhs; unfold fndF
        rw [if_neg hy]
      have hy' : ¬ id = y.1 := fun h => hy h.symm
      rcases fndF_is r id (k + 1) with ⟨h1, h2⟩ | ⟨j, x, h1, h2, h3, h4⟩
      · refine .inl ⟨by rw [e, h1], ?_⟩
        simp only [idsS, List.map_cons, List.mem_cons, not_or]
        exact ⟨hy', h2⟩
      · refine .inr ⟨j + 1, x, h1, h2, ?_, ?_⟩
        · rw [e, h3]
          congr 1
          omega
        · rw [List.take_succ_cons]
          simp only [idsS, List.map_cons, List.mem_cons, not_or]
          exact ⟨hy', h4⟩
theorem fndT_is (l : List St) (id : List UInt8) : (fndT l id = -1 ∧ id ∉ idsS l) ∨ ∃ (j : Nat) (x : St), l[j]? = some x ∧ x.1 = id ∧ fndT l id = (j : Int) ∧ id ∉ idsS (l.take j) := by
  have := fndF_is l id 0
  simp only [Nat.zero_add] at this
  exact this
/-- A stop's identifier is found ahead of it exactly if an earlier stop has it. -/
theorem fndT_lt {l : List St} {i : Nat} {x : St} (h : l[i]? = some x) : fndT l x.1 < (i : Int) ↔ x.1 ∈ idsS (l.take i) := by
  rcases fndT_is l x.1 with ⟨_, h2⟩ | ⟨j, y, h1, h2, h3, h4⟩
  · exact absurd (ids_mem.2 ⟨i, x, h, rfl⟩) h2
  · rw [h3]
    constructor
    · intro hlt
      refine ids_mem.2 ⟨j, y, ?_, h2⟩
      rw [List.getElem?_take, if_pos (by omega)]
      exact h1
    · intro hm
      obtain ⟨k, z, hz, hzx⟩ := ids_mem.1 hm
      rw [List.getElem?_take] at hz
      split at hz
      · next hk =>
        rcases Nat.lt_or_ge j i with hj | hj
        · omega
        · refine absurd (ids_mem.2 ⟨k, z, ?_, hzx⟩) h4
          rw [List.getElem?_take, if_pos (by omega)]
          exact hz
      · cases hz
end Go.Proofs.YtkhalnjgbdpfhaaGreat.S13
namespace Go.Proofs.YtkhalnjgbdpfhaaGreat.S13
set_option maxRecDepth 100000
open Go.RowKit

/-- A stop as cells. -/
def se (x : St) : List Value := [.string (str x.1), .int .i64 x.2.1, .bool x.2.2.1, .int .i64 x.2.2.2]
theorem se_len (x : St) : (se x).length = 4 := rfl
abbrev LstS := @LstG St se
/-- The four cells of a stop. -/
theorem four_at {w : World} {A : Option Addr} {n c : Nat} {l : List St} (h : LstS w (.slice A n c) l) {i : Nat} {id : List UInt8} {z : Int} {f : Bool} {ch : Int} (hs : l[i]? = some (id, z, f, ch)) {s : ByteArray} (hst : str id = s) :
    ∃ b o, A = some ⟨b, o, none⟩ ∧ b < w.heap.size ∧ w.cell? ⟨b, o + i * 4, none⟩ = some (.string s) ∧ w.cell? ⟨b, o + i * 4 + 1, none⟩ = some (.int .i64 z) ∧ w.cell? ⟨b, o + i * 4 + 2, none⟩ = some (.bool f) ∧ w.cell? ⟨b, o + i * 4 + 3, none⟩ = some (.int .i64 ch) := by
  subst hst
  obtain ⟨A', c', hv, _, _, hx⟩ := h
  cases hv
  have hi := (List.getElem?_eq_some_iff.1 hs).1
  obtain ⟨b, o, rfl, hb, hcell⟩ := hx (by omega)
  refine ⟨b, o, rfl, hb, hcell (i * 4) _ (by rw [← Nat.add_zero (i * 4), fl_at se_len hs 0 (by omega)]; rfl), (hcell (i * 4 + 1) _ (by rw [fl_at se_len hs 1 (by omega)]; rfl) : _), (hcell (i * 4 + 2) _ (by rw [fl_at se_len hs 2 (by omega)]; rfl) : _), (hcell (i * 4 + 3) _ (by rw [fl_at se_len hs 3 (by omega)]; rfl) : _)⟩
/-- A stop in a box. -/
abbrev boxS (s : ByteArray) (z : Int) (f : Bool) (ch : Int) : Obj := .cells #[.string s, .int .i64 z, .bool f, .int .i64 ch] 51 (0, 0)
theorem box_st {w w7 : World} {s : ByteArray} {z : Int} {f : Bool} {ch : Int} (h : w.alloc (boxS s z f ch) = w7) :
    Below w.heap.size w w7 ∧ w7.cell? ⟨w.heap.size, 0, none⟩ = some (.string s) ∧ w7.cell? ⟨w.heap.size, 1, none⟩ = some (.int .i64 z) ∧ w7.cell? ⟨w.heap.size, 2, none⟩ = some (.bool f) ∧ w7.cell? ⟨w.heap.size, 3, none⟩ = some (.int .i64 ch) ∧ w.heap.size < w7.heap.size := by
  subst h
  have c7 := heap_alloc_new w (boxS s z f ch)
  exact ⟨(Below.refl _ _).alloc (Nat.le_refl _) _, by rw [cell_of_row _ _ 0 _ _ _ c7]; rfl, by rw [cell_of_row _ _ 1 _ _ _ c7]; rfl, by rw [cell_of_row _ _ 2 _ _ _ c7]; rfl, by rw [cell_of_row _ _ 3 _ _ _ c7]; rfl, by simp⟩
theorem str_ne {id : List UInt8} {x : List UInt8} {s t : ByteArray} (hs : str x = s) (ht : str id = t) (h : x ≠ id) : s ≠ t := by
  intro e
  apply h
  have e2 : str x = str id := by rw [hs, ht, e]
  have := congrArg (fun b : ByteArray => b.data.toList) e2
  simpa [str] using this
end Go.Proofs.YtkhalnjgbdpfhaaGreat.S13
namespace Go.Proofs.YtkhalnjgbdpfhaaGreat.S13
set_option maxRecDepth 100000
open Go.RowKit

theorem ret_chk {a b c d : Int} (h : a = b) (k : c = d) : Ending.returned (.tuple #[.int .i64 a, .int .i64 c]) = .returned (.tuple #[.int .i64 b, .int .i64 d]) := by rw [h, k]
set_option maxRecDepth 100000 in
set_option maxHeartbeats 4000000 in
theorem kstop_any (id : List UInt8) (z : Int) (f : Bool) (ch : Int) (s : ByteArray) (hs : str id = s) (b : Nat) (ls : List (List UInt8)) (w : World) (hm : MapB w b ls) :
    Calls Tryz.prog 73 #[.agg #[.string s, .int .i64 z, .bool f, .int .i64 ch], .map (some b)] w fun e w' => e = .returned (.int .i64 (badS ls (id, z, f, ch))) ∧ Below w.heap.size w w' := by
  have hid : s.data.toList = id := by rw [← hs]
  obtain ⟨w7, hw7⟩ : ∃ W, w.alloc (.cells #[.string s, .int .i64 z, .bool f, .int .i64 ch] 51 (0, 0)) = W := ⟨_, rfl⟩
  obtain ⟨b7, p0, p1, p2, p3, -⟩ := box_st hw7
  have lk := fun hq : s.size ≤ 32 => (hm.below b7).look s id hid (by omega)
  have V := Lib.hid (valid_all_any s w7)
  rw [hid] at V
  have B7 := Lib.hid b7
  clear b7 hm hid
  cases hv : validB id with
  | false =>
    have R := Lib.hid (bad_name (seen := ls) (x := (id, z, f, ch)) hv)
    rw [hv] at V
    clear hv hs lk
    go_enter Tryz.func73, Tryz.ntmps73
    go_wp2_with fail
    refine V.out.mono ?_
    rintro e w' ⟨rfl, rfl⟩
    go_wp2_with fail
    go_ret
    exact ⟨ret_int R.out.symm, B7.out⟩
  | true =>
    rw [hv] at V
    have lk := lk (valid_small hs hv)
    clear hs
    by_cases hd : id ∈ ls
    · have R := Lib.hid (bad_twice (x := (id, z, f, ch)) hv hd)
      rw [decide_eq_true hd] at lk
      clear hv hd
      go_enter Tryz.func73, Tryz.ntmps73
      go_wp2_with fail
      refine V.out.mono ?_
      rintro e w' ⟨rfl, rfl⟩
      go_wp2_with fail
      go_ret
      exact ⟨ret_int R.out.symm, B7.out⟩
    · rw [decide_eq_false hd] at lk
      have RF := Lib.hid (fun hf => bad_far (x := (id, z, f, ch)) hv hd hf)
      have RN := Lib.hid (fun hf => bad_none (x := (id, z, f, ch)) hv hd hf)
      clear hv hd
      unfold farS at RF RN
      simp only at RF RN
      by_cases h1 : z < 0
      · have R := Lib.hid (RF.out (.inl h1))
        clear RF RN
        go_enter Tryz.func73, Tryz.ntmps73
        go_wp2_with fail
        refine V.out.mono ?_
        rintro e w' ⟨rfl, rfl⟩
        go_wp2_with fail
        go_ret
        exact ⟨ret_int R.out.symm, B7.out⟩
      have d1 : decide (z < 0) = false := decide_eq_false h1
      by_cases h2 : 16 ≤ z
      · have R := Lib.hid (RF.out (.inr (.inl h2)))
        clear RF RN h1
        go_enter Tryz.func73, Tryz.ntmps73
        go_wp2_with fail
        refine V.out.mono ?_
        rintro e w' ⟨rfl, rfl⟩
        go_wp2_with fail
        go_ret
        exact ⟨ret_int R.out.symm, B7.out⟩
      have d2 : decide (16 ≤ z) = false := decide_eq_false h2
      by_cases h3 : ch < 0
      · have R := Lib.hid (RF.out (.inr (.inr (.inl h3))))
        clear RF RN h1 h2
        go_enter Tryz.func73, Tryz.ntmps73
        go_wp2_with fail
        refine V.out.mono ?_
        rintro e w' ⟨rfl, rfl⟩
        go_wp2_with fail
        go_ret
        exact ⟨ret_int R.out.symm, B7.out⟩
      have d3 : decide (ch < 0) = false := decide_eq_false h3
      by_cases h4 : 3600 < ch
      · have R := Lib.hid (RF.out (.inr (.inr (.inr h4))))
        clear RF RN h1 h2 h3
        go_enter Tryz.func73, Tryz.ntmps73
        go_wp2_with fail
        refine V.out.mono ?_
        rintro e w' ⟨rfl, rfl⟩
        go_wp2_with fail
        go_ret
        exact ⟨ret_int R.out.symm, B7.out⟩
      have d4 : decide (3600 < ch) = false := decide_eq_false h4
      have R := Lib.hid (RN.out (by omega))
      clear RF RN h1 h2 h3 h4
      go_enter Tryz.func73, Tryz.ntmps73
      go_wp2_with fail
      refine V.out.mono ?_
      rintro e w' ⟨rfl, rfl⟩
      go_wp2_with fail
      go_ret
      exact ⟨ret_int R.out.symm, B7.out⟩
theorem badS_valid {seen : List (List UInt8)} {x : St} (h : badS seen x = 0) : validB x.1 = true := by
  cases hv : validB x.1 with
  | true => rfl
  | false => rw [bad_name hv] at h; cases h
set_option maxRecDepth 100000 in
set_option maxHeartbeats 4000000 in
theorem kcheck_all (v : Value) (l : List St) (hl : l.length ≤ 9223372036854775807) (w : World) (h : LstS w v l) : Calls Tryz.prog 42 #[v] w fun e w' => e = .returned (.tuple #[.int .i64 ((chkT l).1), .int .i64 ((chkT l).2)]) ∧ Below w.heap.size w w' := by
  have H := Lib.hid h
  obtain ⟨A, c, rfl, -, -, -⟩ := h
  by_cases h64 : 64 < l.length
  · have R := Lib.hid (chkT_many h64)
    have g : (64 : Int) < (l.length : Int) := by omega
    generalize chkT l = q at R ⊢
    clear h64
    go_enter Tryz.func42, Tryz.ntmps42
    go_wp2_with fail
    go_ret2
    exact ⟨ret_chk (by rw [R.out]) (by rw [R.out]), Below.refl _ _⟩
  have g : decide ((64 : Int) < (l.length : Int)) = false := by rw [decide_eq_false_iff_not]; omega
  have ST := Lib.hid (chkT_start (l := l) (by omega))
  have h64' : l.length ≤ 64 := by omega
  have hmm := @run_makeMap Tryz.prog
  obtain ⟨q, hq⟩ : ∃ q, chkT l = q := ⟨_, rfl⟩
  rw [hq]
  have HQ := Lib.hid hq
  clear h64 hq
  go_enter Tryz.func42, Tryz.ntmps42
  go_wp2_with fail
  go_loopw [14] (fun i wr => ∃ k : Nat, i = .int .i64 k ∧ k ≤ l.length ∧ Hid (chkT l = chkF (idsS (l.take k)) k (l.drop k)) ∧ Hid (MapB wr w.heap.size (idsS (l.take k))) ∧ Hid (Below w.heap.size w wr)) (fun i _ => l.length - (intOf i).toNat)
  case atStart => exact ⟨0, rfl, Nat.zero_le _, ST, Lib.hid (MapB.made w), Lib.hid ((Below.refl _ _).alloc (Nat.le_refl _) _)⟩
  case round =>
    clear g ST hmm
    obtain ⟨k, rfl, hk, hz, HM, HB⟩ := hrel
    by_cases hlt : k < l.length
    · obtain ⟨⟨id, z, f, ch⟩, hx⟩ := at_lt hlt
      obtain ⟨nm, hnm⟩ : ∃ nm, str id = nm := ⟨_, rfl⟩
      obtain ⟨b, o, rfl, hb, r0, r1, r2, r3⟩ := four_at (H.out.below HB.out) hx hnm
      have gk : (k : Int) < (l.length : Int) := by omega
      obtain ⟨w7, hw7⟩ : ∃ W, wr.alloc (.cells #[.string nm, .int .i64 z, .bool f, .int .i64 ch] 51 (0, 0)) = W := ⟨_, rfl⟩
      obtain ⟨b7, p0, p1, p2, p3, s7⟩ := box_st hw7
      have B7 : Hid (Below w.heap.size w w7) := HB.out.trans (b7.mono HB.out.size)
      have M7 := Lib.hid (HM.out.below b7)
      have C := Lib.hid (kstop_any id z f ch nm hnm w.heap.size (idsS (l.take k)) w7 M7.out)
      by_cases he : badS (idsS (l.take k)) (id, z, f, ch) = 0
      · have N := Lib.hid (chkT_next hz.out hx he)
        have T := Lib.hid (ids_take hx)
        have hil : (idsS (l.take k)).length ≤ 64 := by rw [ids_len, List.length_take]; omega
        have hid : Hid (nm.data.toList = id) := by show _ = _; rw [← hnm]
        have hns := valid_small hnm (badS_valid he)
        rw [he] at C
        simp only at T
        clear hx hz HB HM b7 hnm hb he
        go_wp2_with fail
        refine C.out.mono ?_
        rintro e w8 ⟨rfl, b8⟩
        have q0 := (b8.cell (p := ⟨wr.heap.size, 0, none⟩) s7).trans p0
        have B8 : Hid (Below w.heap.size w w8) := B7.out.trans (b8.mono B7.out.size)
        have M8 := Lib.hid (M7.out.below b8)
        clear b8 p0 p1 p2 p3 B7 M7 C
        go_wp2_with (at_mapUpdate; refine put_bool _ rfl _ _ _ rfl w.heap.size (idsS (l.take k)) rfl M8.out nm id hid.out (by omega) rfl rfl (by omega) ?_; intro w9 m9 g9)
        have M : Hid (MapB w9 w.heap.size (idsS (l.take (k + 1)))) := by
          show MapB _ _ _
          rw [T.out]
          exact m9
        have B : Hid (Below w.heap.size w w9) := B8.out.grown g9 B8.out.size (fun j hj => by cases hj; exact Nat.le_refl _)
        clear m9 g9 M8 B8
        go_wp2_with fail
        go_roundw
        case rel => exact ⟨k + 1, by go_num, by omega, N, M, B⟩
        case measure => simp [intOf]; omega
      · have R := Lib.hid (chkT_stop hz.out hx rfl he)
        have ne := bne_true he
        generalize badS (idsS (l.take k)) (id, z, f, ch) = y at C R ne
        clear hx hz HB HM b7 hnm hb he
        go_wp2_with fail
        refine C.out.mono ?_
        rintro e w8 ⟨rfl, b8⟩
        have B8 : Hid (Below w.heap.size w w8) := B7.out.trans (b8.mono B7.out.size)
        clear b8 B7 C p0 p1 p2 p3
        go_wp2_with fail
        go_ret2
        exact ⟨ret_chk (by rw [← HQ.out, R.out]) (by rw [← HQ.out, R.out]), B8.out⟩
    · have R := Lib.hid (chkT_done hz.out (by omega))
      have d : decide (k < l.length) = false := by rw [decide_eq_false_iff_not]; exact hlt
      clear hz hlt HM
      go_wp2_with fail
      go_ret2
      exact ⟨ret_chk (by rw [← HQ.out, R.out]) (by rw [← HQ.out, R.out]), HB.out⟩
end Go.Proofs.YtkhalnjgbdpfhaaGreat.S13
namespace Go.Proofs.YtkhalnjgbdpfhaaGreat.S13
set_option maxRecDepth 100000
open Go.RowKit

set_option maxRecDepth 100000 in
set_option maxHeartbeats 4000000 in
theorem rfind_any (v : Value) (l : List St) (hl : l.length ≤ 1099511627776) (id : List UInt8) (t : ByteArray) (ht : str id = t) (w : World) (h : LstS w v l) : Calls Tryz.prog 93 #[v, .string t] w fun e w' => e = .returned (.int .i64 (fndT l id)) ∧ w = w' := by
  have H := Lib.hid h
  have HT := Lib.hid ht
  clear ht
  obtain ⟨A, c, rfl, -, -, -⟩ := h
  obtain ⟨r, hr⟩ : ∃ r, fndT l id = r := ⟨_, rfl⟩
  rw [hr]
  have HR := Lib.hid hr
  clear hr
  go_enter Tryz.func93, Tryz.ntmps93
  go_wp2_with fail
  go_loop [5] (fun i => ∃ k : Nat, i = .int .i64 k ∧ k ≤ l.length ∧ Hid (fndT l id = fndF id k (l.drop k))) (fun i => l.length - (intOf i).toNat)
  case atStart => exact ⟨0, rfl, Nat.zero_le _, Lib.hid rfl⟩
  case round =>
    obtain ⟨k, rfl, hk, hz⟩ := hrel
    by_cases hlt : k < l.length
    · obtain ⟨⟨ix, z, f, ch⟩, hx⟩ := at_lt hlt
      obtain ⟨nm, hnm⟩ : ∃ nm, str ix = nm := ⟨_, rfl⟩
      obtain ⟨b, o, rfl, hb, r0, r1, r2, r3⟩ := four_at H.out hx hnm
      have gk : (k : Int) < (l.length : Int) := by omega
      by_cases he : ix = id
      · have g := bytes_eq (a := nm) (b := t) (by rw [← hnm, ← HT.out, he])
        have R : Hid (r = (k : Int)) := by
          show _ = _
          rw [← HR.out, hz.out, fndF_hit hx he]
        clear hx hz hnm hb he hlt HR HT
        go_wp2_with fail
        go_ret
        exact ⟨ret_int R.out.symm, rfl⟩
      · have g := bytes_ne (a := nm) (b := t) (str_ne hnm HT.out he)
        have N : Hid (fndT l id = fndF id (k + 1) (l.drop (k + 1))) := by
          show _ = _
          rw [hz.out, fndF_miss hx he]
        clear hx hz hnm hb he
        go_wp2_with fail
        go_round
        case rel => exact ⟨k + 1, by go_num, by omega, N⟩
        case measure => simp [intOf]; omega
    · have R : Hid (r = -1) := by
        show _ = _
        rw [← HR.out, hz.out, fndF_end (by omega)]
      have d : decide (k < l.length) = false := by rw [decide_eq_false_iff_not]; exact hlt
      clear hz hlt HR HT
      go_wp2_with fail
      go_ret
      exact ⟨ret_int R.out.symm, rfl⟩
end Go.Proofs.YtkhalnjgbdpfhaaGreat.S13
namespace Go.Proofs.YtkhalnjgbdpfhaaGreat.S13
set_option maxRecDepth 100000
open Go.RowKit

set_option maxRecDepth 100000 in
set_option maxHeartbeats 8000000 in
theorem rident_any (s : ByteArray) (hs : s.size ≤ 1099511627776) (w : World) : Calls Tryz.prog 92 #[.string s] w fun e w' => e = .returned (.bool (validB s.data.toList)) ∧ w = w' := by
  by_cases h0 : s.size = 0
  · have e := valid_empty s h0
    have he : (s.size : Int) < 1 := by omega
    rw [e]
    clear e h0
    go_enter Tryz.func92, Tryz.ntmps92
    go_wp2_with fail
    go_ret
    exact ⟨rfl, rfl⟩
  have he : decide ((s.size : Int) < 1) = false := by rw [decide_eq_false_iff_not]; omega
  by_cases h3 : 32 < s.size
  · have e := valid_long s h3
    have g : (32 : Int) < (s.size : Int) := by omega
    clear h0 h3
    rw [e]
    go_enter Tryz.func92, Tryz.ntmps92
    go_wp2_with fail
    go_ret
    exact ⟨rfl, rfl⟩
  have g : decide ((32 : Int) < (s.size : Int)) = false := by simp; omega
  rw [valid_all s (by omega) (by omega)]
  obtain ⟨r, hr⟩ : ∃ r, s.data.toList.all idB = r := ⟨_, rfl⟩
  rw [hr]
  have HR := Lib.hid hr
  clear hr
  clear h0 h3
  go_enter Tryz.func92, Tryz.ntmps92
  go_wp2_with fail
  go_loop [3] (fun i => ∃ k : Nat, i = .int .i64 k ∧ k ≤ s.size ∧ Hid ((s.data.toList.take k).all idB = true)) (fun i => s.size - (intOf i).toNat)
  case atStart => exact ⟨0, rfl, Nat.zero_le _, Lib.hid rfl⟩
  case round =>
    clear he g
    obtain ⟨k, rfl, hk, ht⟩ := hrel
    by_cases hlt : k < s.size
    · obtain ⟨c, hc⟩ := get_at' s k hlt
      have k1 := fun W => at_run s k c hc k rfl W
      have hid := idB_int c
      generalize hn : (c.toNat : Int) = n at k1 hid
      clear hn
      unfold lttI digI sgnI at hid
      rcases ways_byte n with h | rfl | rfl | rfl | h | h | h | h | rfl | rfl | h | h
      · have T := Lib.hid (all_stop (p := idB) hc (by rw [hid]; simp; omega))
        have g0 : decide ((65 : Int) ≤ n) = false := by rw [decide_eq_false_iff_not]; omega
        have g1 : n ≤ 90 := by omega
        have g2 : decide ((97 : Int) ≤ n) = false := by rw [decide_eq_false_iff_not]; omega
        have g3 : n ≤ 122 := by omega
        have g4 : decide ((48 : Int) ≤ n) = false := by rw [decide_eq_false_iff_not]; omega
        have g5 : n ≤ 57 := by omega
        have q0 : (n == 45) = false := beq_false (by omega)
        have q1 : (n == 95) = false := beq_false (by omega)
        have q2 : (n == 46) = false := beq_false (by omega)
        clear hc hid ht h
        go_wp2_with fail
        go_ret
        exact ⟨ret_bool (by rw [← HR.out, T.out]), rfl⟩
      · have T := Lib.hid (all_take idB _ k c hc ht.out (by rw [hid]; simp))
        clear hc hid ht
        go_wp2_with fail
        go_round
        case rel => exact ⟨k + 1, by go_num, by omega, T⟩
        case measure => simp [intOf]; omega
      · have T := Lib.hid (all_take idB _ k c hc ht.out (by rw [hid]; simp))
        clear hc hid ht
        go_wp2_with fail
        go_round
        case rel => exact ⟨k + 1, by go_num, by omega, T⟩
        case measure => simp [intOf]; omega
      · have T := Lib.hid (all_stop (p := idB) hc (by rw [hid]; simp))
        clear hc hid ht
        go_wp2_with fail
        go_ret
        exact ⟨ret_bool (by rw [← HR.out, T.out]), rfl⟩
      · have T := Lib.hid (all_take idB _ k c hc ht.out (by rw [hid]; simp; omega))
        have g0 : decide ((65 : Int) ≤ n) = false := by rw [decide_eq_false_iff_not]; omega
        have g1 : n ≤ 90 := by omega
        have g2 : decide ((97 : Int) ≤ n) = false := by rw [decide_eq_false_iff_not]; omega
        have g3 : n ≤ 122 := by omega
        have g4 : (48 : Int) ≤ n := by omega
        have g5 : n ≤ 57 := by omega
        have q0 : (n == 45) = false := beq_false (by omega)
        have q1 : (n == 95) = false := beq_false (by omega)
        have q2 : (n == 46) = false := beq_false (by omega)
        clear hc hid ht h
        go_wp2_with fail
        go_round
        case rel => exact ⟨k + 1, by go_num, by omega, T⟩
        case measure => simp [intOf]; omega
      · have T := Lib.hid (all_stop (p := idB) hc (by rw [hid]; simp; omega))
        have g0 : decide ((65 : Int) ≤ n) = false := by rw [decide_eq_false_iff_not]; omega
        have g1 : n ≤ 90 := by omega
        have g2 : decide ((97 : Int) ≤ n) = false := by rw [decide_eq_false_iff_not]; omega
        have g3 : n ≤ 122 := by omega
        have g4 : (48 : Int) ≤ n := by omega
        have g5 : decide (n ≤ 57) = false := by rw [decide_eq_false_iff_not]; omega
        have q0 : (n == 45) = false := beq_false (by omega)
        have q1 : (n == 95) = false := beq_false (by omega)
        have q2 : (n == 46) = false := beq_false (by omega)
        clear hc hid ht h
        go_wp2_with fail
        go_ret
        exact ⟨ret_bool (by rw [← HR.out, T.out]), rfl⟩
      · have T := Lib.hid (all_take idB _ k c hc ht.out (by rw [hid]; simp; omega))
        have g0 : (65 : Int) ≤ n := by omega
        have g1 : n ≤ 90 := by omega
        have g2 : decide ((97 : Int) ≤ n) = false := by rw [decide_eq_false_iff_not]; omega
        have g3 : n ≤ 122 := by omega
        have g4 : (48 : Int) ≤ n := by omega
        have g5 : decide (n ≤ 57) = false := by rw [decide_eq_false_iff_not]; omega
        have q0 : (n == 45) = false := beq_false (by omega)
        have q1 : (n == 95) = false := beq_false (by omega)
        have q2 : (n == 46) = false := beq_false (by omega)
        clear hc hid ht h
        go_wp2_with fail
        go_round
        case rel => exact ⟨k + 1, by go_num, by omega, T⟩
        case measure => simp [intOf]; omega
      · have T := Lib.hid (all_stop (p := idB) hc (by rw [hid]; simp; omega))
        have g0 : (65 : Int) ≤ n := by omega
        have g1 : decide (n ≤ 90) = false := by rw [decide_eq_false_iff_not]; omega
        have g2 : decide ((97 : Int) ≤ n) = false := by rw [decide_eq_false_iff_not]; omega
        have g3 : n ≤ 122 := by omega
        have g4 : (48 : Int) ≤ n := by omega
        have g5 : decide (n ≤ 57) = false := by rw [decide_eq_false_iff_not]; omega
        have q0 : (n == 45) = false := beq_false (by omega)
        have q1 : (n == 95) = false := beq_false (by omega)
        have q2 : (n == 46) = false := beq_false (by omega)
        clear hc hid ht h
        go_wp2_with fail
        go_ret
        exact ⟨ret_bool (by rw [← HR.out, T.out]), rfl⟩
      · have T := Lib.hid (all_take idB _ k c hc ht.out (by rw [hid]; simp))
        clear hc hid ht
        go_wp2_with fail
        go_round
        case rel => exact ⟨k + 1, by go_num, by omega, T⟩
        case measure => simp [intOf]; omega
      · have T := Lib.hid (all_stop (p := idB) hc (by rw [hid]; simp))
        clear hc hid ht
        go_wp2_with fail
        go_ret
        exact ⟨ret_bool (by rw [← HR.out, T.out]), rfl⟩
      · have T := Lib.hid (all_take idB _ k c hc ht.out (by rw [hid]; simp; omega))
        have g0 : (65 : Int) ≤ n := by omega
        have g1 : decide (n ≤ 90) = false := by rw [decide_eq_false_iff_not]; omega
        have g2 : (97 : Int) ≤ n := by omega
        have g3 : n ≤ 122 := by omega
        have g4 : (48 : Int) ≤ n := by omega
        have g5 : decide (n ≤ 57) = false := by rw [decide_eq_false_iff_not]; omega
        have q0 : (n == 45) = false := beq_false (by omega)
        have q1 : (n == 95) = false := beq_false (by omega)
        have q2 : (n == 46) = false := beq_false (by omega)
        clear hc hid ht h
        go_wp2_with fail
        go_round
        case rel => exact ⟨k + 1, by go_num, by omega, T⟩
        case measure => simp [intOf]; omega
      · have T := Lib.hid (all_stop (p := idB) hc (by rw [hid]; simp; omega))
        have g0 : (65 : Int) ≤ n := by omega
        have g1 : decide (n ≤ 90) = false := by rw [decide_eq_false_iff_not]; omega
        have g2 : (97 : Int) ≤ n := by omega
        have g3 : decide (n ≤ 122) = false := by rw [decide_eq_false_iff_not]; omega
        have g4 : (48 : Int) ≤ n := by omega
        have g5 : decide (n ≤ 57) = false := by rw [decide_eq_false_iff_not]; omega
        have q0 : (n == 45) = false := beq_false (by omega)
        have q1 : (n == 95) = false := beq_false (by omega)
        have q2 : (n == 46) = false := beq_false (by omega)
        clear hc hid ht h
        go_wp2_with fail
        go_ret
        exact ⟨ret_bool (by rw [← HR.out, T.out]), rfl⟩
    · have R : Hid (r = true) := by
        show _ = _
        rw [← HR.out]
        have := ht.out
        rw [List.take_of_length_le (by rw [sz_list]; omega)] at this
        exact this
      have d : decide (k < s.size) = false := by rw [decide_eq_false_iff_not]; exact hlt
      clear hlt ht
      go_wp2_with fail
      go_ret
      exact ⟨ret_bool R.out.symm, rfl⟩
theorem rident_all_any (s : ByteArray) (w : World) : Calls Tryz.prog 92 #[.string s] w fun e w' => e = .returned (.bool (validB s.data.toList)) ∧ w = w' := by
  by_cases hs : s.size ≤ 1099511627776
  · exact rident_any s hs w
  have e := valid_long s (by omega)
  have he : decide ((s.size : Int) < 1) = false := by rw [decide_eq_false_iff_not]; omega
  have g : (32 : Int) < (s.size : Int) := by omega
  clear hs
  rw [e]
  go_enter Tryz.func92, Tryz.ntmps92
  go_wp2_with fail
  go_ret
  exact ⟨rfl, rfl⟩
end Go.Proofs.YtkhalnjgbdpfhaaGreat.S13
namespace Go.Proofs.YtkhalnjgbdpfhaaGreat.S13
set_option maxRecDepth 100000
open Go.RowKit

set_option maxRecDepth 100000 in
set_option maxHeartbeats 4000000 in
theorem rcheck_all (v : Value) (l : List St) (hl : l.length ≤ 9223372036854775807) (w : World) (h : LstS w v l) : Calls Tryz.prog 61 #[v] w fun e w' => e = .returned (.tuple #[.int .i64 ((chkT l).1), .int .i64 ((chkT l).2)]) ∧ w = w' := by
  have H := Lib.hid h
  obtain ⟨A, c, rfl, -, -, -⟩ := h
  by_cases h64 : 64 < l.length
  · have R := Lib.hid (chkT_many h64)
    have g : (64 : Int) < (l.length : Int) := by omega
    generalize chkT l = q at R ⊢
    clear h64
    go_enter Tryz.func61, Tryz.ntmps61
    go_wp2_with fail
    go_ret2
    exact ⟨ret_chk (by rw [R.out]) (by rw [R.out]), rfl⟩
  have g : decide ((64 : Int) < (l.length : Int)) = false := by rw [decide_eq_false_iff_not]; omega
  have ST := Lib.hid (chkT_start (l := l) (by omega))
  have h64' : l.length ≤ 64 := by omega
  obtain ⟨q, hq⟩ : ∃ q, chkT l = q := ⟨_, rfl⟩
  rw [hq]
  have HQ := Lib.hid hq
  clear h64 hq
  go_enter Tryz.func61, Tryz.ntmps61
  go_wp2_with fail
  go_loop [4] (fun i => ∃ k : Nat, i = .int .i64 k ∧ k ≤ l.length ∧ Hid (chkT l = chkF (idsS (l.take k)) k (l.drop k))) (fun i => l.length - (intOf i).toNat)
  case atStart => exact ⟨0, rfl, Nat.zero_le _, ST⟩
  case round =>
    clear g ST
    obtain ⟨k, rfl, hk, hz⟩ := hrel
    by_cases hlt : k < l.length
    · obtain ⟨⟨id, z, f, ch⟩, hx⟩ := at_lt hlt
      obtain ⟨nm, hnm⟩ : ∃ nm, str id = nm := ⟨_, rfl⟩
      have F := Lib.hid (rfind_any _ l (by omega) id nm hnm w H.out)
      obtain ⟨b, o, rfl, hb, r0, r1, r2, r3⟩ := four_at H.out hx hnm
      have gk : (k : Int) < (l.length : Int) := by omega
      have hid : nm.data.toList = id := by rw [← hnm]
      have V := Lib.hid (rident_all_any nm w)
      rw [hid] at V
      have FL := fndT_lt hx
      simp only at FL
      generalize fndT l id = p at F FL
      cases hv : validB id with
      | false =>
        have R := Lib.hid (chkT_stop hz.out hx (bad_name (seen := idsS (l.take k)) (x := (id, z, f, ch)) hv) (by decide))
        rw [hv] at V
        clear hx hz hnm hb hid hv FL F
        go_wp2_with fail
        refine V.out.mono ?_
        rintro e w' ⟨rfl, rfl⟩
        go_wp2_with fail
        go_ret2
        exact ⟨ret_chk (by rw [← HQ.out, R.out]) (by rw [← HQ.out, R.out]), rfl⟩
      | true =>
        rw [hv] at V
        by_cases hd : id ∈ idsS (l.take k)
        · have R := Lib.hid (chkT_stop hz.out hx (bad_twice (x := (id, z, f, ch)) hv hd) (by decide))
          have fl := FL.2 hd
          clear hx hz hnm hb hid hv FL hd
          go_wp2_with fail
          refine V.out.mono ?_
          rintro e w' ⟨rfl, rfl⟩
          go_wp2_with fail
          refine F.out.mono ?_
          rintro e w' ⟨rfl, rfl⟩
          go_wp2_with fail
          go_ret2
          exact ⟨ret_chk (by rw [← HQ.out, R.out]) (by rw [← HQ.out, R.out]), rfl⟩
        · have fl : decide (p < (k : Int)) = false := decide_eq_false fun e => hd (FL.1 e)
          have RF := Lib.hid (fun hf => chkT_stop hz.out hx (bad_far (x := (id, z, f, ch)) hv hd hf) (by decide))
          have RN := Lib.hid (fun hf => chkT_next hz.out hx (bad_none (x := (id, z, f, ch)) hv hd hf))
          unfold farS at RF RN
          simp only at RF RN
          clear hx hz hnm hb hid hv FL hd
          go_wp2_with fail
          refine V.out.mono ?_
          rintro e w' ⟨rfl, rfl⟩
          go_wp2_with fail
          refine F.out.mono ?_
          rintro e w' ⟨rfl, rfl⟩
          clear V F
          by_cases h1 : z < 0
          · have R := Lib.hid (RF.out (.inl h1))
            clear RF RN
            go_wp2_with fail
            go_ret2
            exact ⟨ret_chk (by rw [← HQ.out, R.out]) (by rw [← HQ.out, R.out]), rfl⟩
          have d1 : decide (z < 0) = false := decide_eq_false h1
          by_cases h2 : 16 ≤ z
          · have R := Lib.hid (RF.out (.inr (.inl h2)))
            clear RF RN h1
            go_wp2_with fail
            go_ret2
            exact ⟨ret_chk (by rw [← HQ.out, R.out]) (by rw [← HQ.out, R.out]), rfl⟩
          have d2 : decide (16 ≤ z) = false := decide_eq_false h2
          by_cases h3 : ch < 0
          · have R := Lib.hid (RF.out (.inr (.inr (.inl h3))))
            clear RF RN h1 h2
            go_wp2_with fail
            go_ret2
            exact ⟨ret_chk (by rw [← HQ.out, R.out]) (by rw [← HQ.out, R.out]), rfl⟩
          have d3 : decide (ch < 0) = false := decide_eq_false h3
          by_cases h4 : 3600 < ch
          · have R := Lib.hid (RF.out (.inr (.inr (.inr h4))))
            clear RF RN h1 h2 h3
            go_wp2_with fail
            go_ret2
            exact ⟨ret_chk (by rw [← HQ.out, R.out]) (by rw [← HQ.out, R.out]), rfl⟩
          have d4 : decide (3600 < ch) = false := decide_eq_false h4
          have N := Lib.hid (RN.out (by omega))
          clear RF RN h1 h2 h3 h4
          go_wp2_with fail
          go_round
          case rel => exact ⟨k + 1, by go_num, by omega, N⟩
          case measure => simp [intOf]; omega
    · have R := Lib.hid (chkT_done hz.out (by omega))
      have d : decide (k < l.length) = false := by rw [decide_eq_false_iff_not]; exact hlt
      clear hz hlt
      go_wp2_with fail
      go_ret2
      exact ⟨ret_chk (by rw [← HQ.out, R.out]) (by rw [← HQ.out, R.out]), rfl⟩
end Go.Proofs.YtkhalnjgbdpfhaaGreat.S13
namespace Go.Proofs.YtkhalnjgbdpfhaaGreat.S13
set_option maxRecDepth 100000
open Go.RowKit Go.ChangeShapes Go.WideShapes Go.Deep

theorem trod_stop {H : Type} {enc : TypeId × Value → H} {W : World} {n : Nat} {cs : List Value} {x : DataW H × List MemPlace} (h : DataW.trod enc Tryz.prog W 0 (fun _ => true) true n 51 cs = some x) : ∃ a : St, ((-9223372036854775808 ≤ a.2.1 ∧ a.2.1 ≤ 9223372036854775807) ∧ -9223372036854775808 ≤ a.2.2.2 ∧ a.2.2.2 ≤ 9223372036854775807) ∧ cs = se a := by
  obtain ⟨y0, y1, y2, y3, n, _, hl, h0, h1, h2, h3⟩ := Go.Joins.trod_struct4 Tryz.underlying51 h
  rw [show Tryz.prog.cellsOf 51 = 4 by kernel_rfl] at hl
  match cs, hl with
  | [c0, c1, c2, c3], _ =>
    simp only [show Tryz.prog.cellsOf 9 = 1 by kernel_rfl, show Tryz.prog.cellsOf 3 = 1 by kernel_rfl, show Tryz.prog.cellsOf 4 = 1 by kernel_rfl] at h0 h1 h2 h3
    obtain ⟨s, e0, -⟩ := DataW.trod_string Tryz.underlying9 h0
    obtain ⟨z, e1, _, w1⟩ := DataW.trod_int Tryz.underlying3 h1
    obtain ⟨f, e2, -⟩ := DataW.trod_bool Tryz.underlying4 h2
    obtain ⟨c, e3, _, w3⟩ := DataW.trod_int Tryz.underlying3 h3
    simp at e0 e1 e2 e3
    subst e0 e1 e2 e3
    refine ⟨(s.data.toList, z, f, c), ⟨⟨int_low w1, int_top w1⟩, int_low w3, int_top w3⟩, ?_⟩
    unfold se
    rw [str_list]
end Go.Proofs.YtkhalnjgbdpfhaaGreat.S13
