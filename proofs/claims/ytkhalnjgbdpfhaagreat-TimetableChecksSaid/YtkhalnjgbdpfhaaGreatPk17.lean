/-
  Plain facts about trips: the text of a pattern tells the pattern, groups of equal keys in the order of their first indices, a later one behind an earlier one, events, the first trip that is not valid: no program. Condition: none beyond each theorem's own hypotheses. Slices of trips in memory: the cells of a trip, a trip put into a box of its own, what the world says of each trip's calls; the table that numerals are made with. Condition: none beyond each theorem's own hypotheses. Plain facts about trips: the first trip that is not valid, the first with an identifier, those that connect two stops, the keys that tell their patterns apart. Condition: none beyond each theorem's own hypotheses. The code's checkCall and Check of lists of calls: what each call answers; nothing that existed before the call has changed behind it. Condition: none beyond lengths of 63 bits. The code's isIndex and Check of tables of trips: what each call answers; nothing that existed before the call has changed behind it. Condition: lists of fewer than 2^63 trips. Lists of lists of ints: slices of slices that a call makes or is handed. Condition: none beyond each theorem's own hypotheses. A slice of slices of ints that a call makes and lets grow, its rows lie apart: behind an append of a row, behind an append to one row and the store of it, behind a store into a row. Condition: none beyond each theorem's own hypotheses. (Moved to the text Gsl: slices of slices of ints of the call's own.) Condition: none beyond each theorem's own hypotheses. The code's connects, the reference's Connects, the laws' passes: what each call answers; nothing that existed before the call has changed behind it. Condition: lists of fewer than 2^63 calls. Both SamePattern of trips: what each call answers; nothing that existed before the call has changed behind it. Condition: lists of fewer than 2^63 calls. Find of trips, the code's and the reference's; the code's Between; the reference's Group: what each call answers; nothing that existed before the call has changed behind it. Condition: lists of fewer than 2^40 trips. The reference's calls, one, Check of tables of trips: what each call answers; nothing that existed before the call has changed behind it. Condition: lists of fewer than 2^40 trips.
-/
import Derived.Test.YtkhalnjgbdpfhaaGreatShP
import Derived.Lib.ItoaNum
import Derived.Test.YtkhalnjgbdpfhaaGreatShT
import Derived.Test.YtkhalnjgbdpfhaaGreatMap
import Derived.Test.YtkhalnjgbdpfhaaGreatShV
import Derived.Lib.LaidTab
import Derived.Test.YtkhalnjgbdpfhaaGreatShA
namespace Go.Proofs.YtkhalnjgbdpfhaaGreat.S17
set_option maxRecDepth 100000
open Go Go.RowKit

theorem OkS.at {l : List Cl} (h : OkS l) {k : Nat} {x : Cl} (hx : l[k]? = some x) : -9223372036854775808 ≤ x.1 ∧ x.1 ≤ 9223372036854775807 := (h.all hx).1
theorem OkS.take {l : List Cl} (h : OkS l) (k : Nat) : OkS (l.take k) := fun x hx => h x (List.mem_of_mem_take hx)
/-! ### Groups of equal keys -/
section
variable {κ : Type} [DecidableEq κ]
end
/-! ### One with a property, a later one with another -/
section
variable {α : Type} {p q : α → Bool}
end
end Go.Proofs.YtkhalnjgbdpfhaaGreat.S17
namespace Go.Proofs.YtkhalnjgbdpfhaaGreat.S17
set_option maxRecDepth 100000
open Go.RowKit

theorem str_ne {id : List UInt8} {x : List UInt8} {s t : ByteArray} (hs : str x = s) (ht : str id = t) (h : x ≠ id) : s ≠ t := by
  intro e
  apply h
  have e2 : str x = str id := by rw [hs, ht, e]
  have := congrArg (fun b : ByteArray => b.data.toList) e2
  simpa [str] using this
end Go.Proofs.YtkhalnjgbdpfhaaGreat.S17
namespace Go.Proofs.YtkhalnjgbdpfhaaGreat.S17
set_option maxRecDepth 100000
open Go.RowKit

def idT (x : Tp) : List UInt8 := x.1
/-- Whether a trip's route and calendar are indices. -/
def rkT (ro ca r k : Int) : Prop := (0 ≤ r ∧ r < ro) ∧ 0 ≤ k ∧ k < ca
instance (ro ca r k : Int) : Decidable (rkT ro ca r k) := by unfold rkT; infer_instance
/-- The error of a trip. -/
def badT (st ro ca : Int) (seen : List (List UInt8)) (x : Tp) : Int := if validB x.1 = false then 12 else if x.1 ∈ seen then 6 else if rkT ro ca x.2.1 x.2.2.1 then (chkC st 0 172800 x.2.2.2.2.2).2 else 9
section
variable {st ro ca : Int} {seen : List (List UInt8)} {x : Tp}
theorem badT_name (h : validB x.1 = false) : badT st ro ca seen x = 12 := by unfold badT; rw [if_pos h]
theorem badT_twice (h : validB x.1 = true) (h2 : x.1 ∈ seen) : badT st ro ca seen x = 6 := by unfold badT; rw [if_neg (by rw [h]; simp), if_pos h2]
theorem badT_ref (h : validB x.1 = true) (h2 : x.1 ∉ seen) (h3 : ¬ rkT ro ca x.2.1 x.2.2.1) : badT st ro ca seen x = 9 := by unfold badT; rw [if_neg (by rw [h]; simp), if_neg h2, if_neg h3]
theorem badT_calls (h : validB x.1 = true) (h2 : x.1 ∉ seen) (h3 : rkT ro ca x.2.1 x.2.2.1) : badT st ro ca seen x = (chkC st 0 172800 x.2.2.2.2.2).2 := by unfold badT; rw [if_neg (by rw [h]; simp), if_neg h2, if_pos h3]
end
theorem valid_le {l : List UInt8} (h : validB l = true) : l.length ≤ 32 := ((valid_iff l).1 h).1.2
/-- What Check answers. -/
def chkT (st ro ca : Int) (l : List Tp) : Int × Int := if 256 < l.length then (0, 5) else fbF (badT st ro ca) idT [] 0 l
theorem chkT_many {st ro ca : Int} {l : List Tp} (h : 256 < l.length) : chkT st ro ca l = (0, 5) := by unfold chkT; rw [if_pos h]
theorem chkT_start {st ro ca : Int} {l : List Tp} (h : l.length ≤ 256) : chkT st ro ca l = fbF (badT st ro ca) idT ((l.take 0).map idT) 0 (l.drop 0) := by unfold chkT; rw [if_neg (by omega)]; rfl
/-- Whether a trip has this identifier. -/
def isT (id : List UInt8) (x : Tp) : Bool := decide (x.1 = id)
theorem isT_yes {id : List UInt8} {x : Tp} (h : x.1 = id) : isT id x = true := decide_eq_true h
theorem isT_no {id : List UInt8} {x : Tp} (h : x.1 ≠ id) : isT id x = false := decide_eq_false h
theorem fdF_none {α : Type} (p : α → Bool) : ∀ (l : List α) (k : Nat), fdF p k l = -1 → ∀ x ∈ l, p x = false
  | [], _, _, x, hx => by cases hx
  | y :: r, k, h, x, hx => by
    unfold fdF at h
    by_cases hp : p y = true
    · rw [if_pos hp] at h
      omega
    · rw [if_neg hp] at h
      rcases List.mem_cons.1 hx with rfl | hx
      · exact Bool.eq_false_iff.2 hp
      · exact fdF_none p r (k + 1) h x hx
theorem fdt_in {id : List UInt8} {l : List Tp} (h : 0 ≤ fdT (isT id) l) : id ∈ l.map idT := by
  obtain ⟨j, x, h1, h2, _⟩ := fd_mem (p := isT id) (l := l) (by omega)
  exact List.mem_map.2 ⟨x, List.mem_iff_getElem?.2 ⟨j, h1⟩, of_decide_eq_true h2⟩
theorem fdt_no {id : List UInt8} {l : List Tp} (h : ¬ 0 ≤ fdT (isT id) l) : id ∉ l.map idT := by
  rcases fd_range (isT id) l with h1 | h1
  · intro hm
    obtain ⟨x, hx, e⟩ := List.mem_map.1 hm
    have := fdF_none (isT id) l 0 h1 x hx
    rw [isT_yes e] at this
    cases this
  · omega
end Go.Proofs.YtkhalnjgbdpfhaaGreat.S17
namespace Go.Proofs.YtkhalnjgbdpfhaaGreat.S17
set_option maxRecDepth 100000
open Go.RowKit

set_option maxRecDepth 100000 in
set_option maxHeartbeats 4000000 in
theorem kcall_first (v : Value) (l : List Cl) (hl : l.length ≤ 9223372036854775807) (st lo hi s a d : Int) (o u : Bool) (hx : l[0]? = some (s, a, d, o, u)) (w : World) (h : LstC w v l) : Calls Tryz.prog 112 #[v, .int .i64 0, .int .i64 st, .int .i64 lo, .int .i64 hi] w fun e w' => e = .returned (.int .i64 (badC st lo hi none (s, a, d, o, u))) ∧ Below w.heap.size w w' := by
  obtain ⟨A, c, rfl, -, -, -⟩ := id h
  obtain ⟨b, f, rfl, hb, r0, r1, r2, r3, r4⟩ := five_at h hx
  obtain ⟨w7, hw7⟩ : ∃ W, w.alloc (.cells #[.int .i64 s, .int .i64 a, .int .i64 d, .bool o, .bool u] 74 (0, 0)) = W := ⟨_, rfl⟩
  obtain ⟨b7, p0, p1, p2, p3, p4, s7⟩ := box_cc hw7
  rw [Nat.zero_mul, Nat.add_zero] at r0 r1 r2 r3 r4
  have B7 := Lib.hid b7
  have gl : 0 < l.length := (List.getElem?_eq_some_iff.1 hx).1
  have gk : (0 : Int) < (l.length : Int) := by omega
  clear b7 hx h hb
  by_cases h1 : s < 0
  · have R := Lib.hid (badC_ref (st := st) (lo := lo) (hi := hi) (p := none) (x := (s, a, d, o, u)) (.inl h1))
    go_enter Tryz.func112, Tryz.ntmps112
    go_wp2_with fail
    go_ret
    exact ⟨ret_int R.out.symm, B7.out⟩
  have d1 : decide (s < 0) = false := decide_eq_false h1
  by_cases h2 : st ≤ s
  · have R := Lib.hid (badC_ref (st := st) (lo := lo) (hi := hi) (p := none) (x := (s, a, d, o, u)) (.inr h2))
    clear h1
    go_enter Tryz.func112, Tryz.ntmps112
    go_wp2_with fail
    go_ret
    exact ⟨ret_int R.out.symm, B7.out⟩
  have d2 : decide (st ≤ s) = false := decide_eq_false h2
  by_cases h4 : a < lo
  · have R := Lib.hid (badC_time (st := st) (lo := lo) (hi := hi) (p := none) (x := (s, a, d, o, u)) h1 h2 onC_none (.inl h4))
    clear h1 h2
    go_enter Tryz.func112, Tryz.ntmps112
    go_wp2_with fail
    go_quiet (fail)
    go_wp2_with fail
    go_ret
    exact ⟨ret_int R.out.symm, below_drewN B7.out _⟩
  have d4 : decide (a < lo) = false := decide_eq_false h4
  by_cases h5 : d < a
  · have R := Lib.hid (badC_time (st := st) (lo := lo) (hi := hi) (p := none) (x := (s, a, d, o, u)) h1 h2 onC_none (.inr (.inl h5)))
    clear h1 h2 h4
    go_enter Tryz.func112, Tryz.ntmps112
    go_wp2_with fail
    go_quiet (fail)
    go_wp2_with fail
    go_ret
    exact ⟨ret_int R.out.symm, below_drewN B7.out _⟩
  have d5 : decide (d < a) = false := decide_eq_false h5
  by_cases h6 : hi < d
  · have R := Lib.hid (badC_time (st := st) (lo := lo) (hi := hi) (p := none) (x := (s, a, d, o, u)) h1 h2 onC_none (.inr (.inr h6)))
    clear h1 h2 h4 h5
    go_enter Tryz.func112, Tryz.ntmps112
    go_wp2_with fail
    go_quiet (fail)
    go_wp2_with fail
    go_ret
    exact ⟨ret_int R.out.symm, below_drewN B7.out _⟩
  have d6 : decide (hi < d) = false := decide_eq_false h6
  have R := Lib.hid (badC_none (st := st) (lo := lo) (hi := hi) (p := none) (x := (s, a, d, o, u)) h1 h2 onC_none h4 h5 h6 ovC_none)
  clear h1 h2 h4 h5 h6
  go_enter Tryz.func112, Tryz.ntmps112
  go_wp2_with fail
  go_quiet (fail)
  go_wp2_with fail
  go_quiet (fail)
  go_wp2_with fail
  go_ret
  exact ⟨ret_int R.out.symm, below_drewN (below_drewN B7.out _) _⟩
set_option maxRecDepth 100000 in
set_option maxHeartbeats 4000000 in
theorem kcall_later (v : Value) (l : List Cl) (hl : l.length ≤ 9223372036854775807) (st lo hi s a d : Int) (o u : Bool) (n m : Nat) (hm : n = m + 1) (hx : l[n]? = some (s, a, d, o, u)) (s1 a1 t1 : Int) (o1 u1 : Bool) (hy : l[m]? = some (s1, a1, t1, o1, u1)) (w : World) (h : LstC w v l) : Calls Tryz.prog 112 #[v, .int .i64 (n : Int), .int .i64 st, .int .i64 lo, .int .i64 hi] w fun e w' => e = .returned (.int .i64 (badC st lo hi (some (s1, a1, t1, o1, u1)) (s, a, d, o, u))) ∧ Below w.heap.size w w' := by
  obtain ⟨A, c, rfl, -, -, -⟩ := id h
  obtain ⟨b, f, rfl, hb, r0, r1, r2, r3, r4⟩ := five_at h hx
  obtain ⟨w7, hw7⟩ : ∃ W, w.alloc (.cells #[.int .i64 s, .int .i64 a, .int .i64 d, .bool o, .bool u] 74 (0, 0)) = W := ⟨_, rfl⟩
  obtain ⟨b7, p0, p1, p2, p3, p4, s7⟩ := box_cc hw7
  obtain ⟨b', f', hA, hb', q0, q1, q2, -, -⟩ := five_at (h.below b7) hy
  cases hA
  have B7 := Lib.hid b7
  have gl : n < l.length := (List.getElem?_eq_some_iff.1 hx).1
  have gk : (n : Int) < (l.length : Int) := by omega
  have gm : (m : Int) < (l.length : Int) := by omega
  have gn : (0 : Int) < (n : Int) := by omega
  have gn' : 0 < n := by omega
  have gs : (n : Int) - 1 = (m : Int) := by omega
  clear b7 hx hy h hb hb' hm q1
  by_cases h1 : s < 0
  · have R := Lib.hid (badC_ref (st := st) (lo := lo) (hi := hi) (p := some (s1, a1, t1, o1, u1)) (x := (s, a, d, o, u)) (.inl h1))
    go_enter Tryz.func112, Tryz.ntmps112
    go_wp2_with fail
    go_ret
    exact ⟨ret_int R.out.symm, B7.out⟩
  have d1 : decide (s < 0) = false := decide_eq_false h1
  by_cases h2 : st ≤ s
  · have R := Lib.hid (badC_ref (st := st) (lo := lo) (hi := hi) (p := some (s1, a1, t1, o1, u1)) (x := (s, a, d, o, u)) (.inr h2))
    clear h1
    go_enter Tryz.func112, Tryz.ntmps112
    go_wp2_with fail
    go_ret
    exact ⟨ret_int R.out.symm, B7.out⟩
  have d2 : decide (st ≤ s) = false := decide_eq_false h2
  by_cases h3 : s = s1
  · have e3 := beq_true h3
    have R := Lib.hid (badC_stop (st := st) (lo := lo) (hi := hi) (p := some (s1, a1, t1, o1, u1)) (x := (s, a, d, o, u)) h1 h2 (onC_yes h3))
    clear h1 h2 h3
    go_enter Tryz.func112, Tryz.ntmps112
    go_wp2_with fail
    go_quiet (fail)
    go_wp2_with fail
    go_ret
    exact ⟨ret_int R.out.symm, below_drewN B7.out _⟩
  have e3 := beq_false h3
  by_cases h4 : a < lo
  · have R := Lib.hid (badC_time (st := st) (lo := lo) (hi := hi) (p := some (s1, a1, t1, o1, u1)) (x := (s, a, d, o, u)) h1 h2 (onC_no h3) (.inl h4))
    clear h1 h2 h3
    go_enter Tryz.func112, Tryz.ntmps112
    go_wp2_with fail
    go_quiet (fail)
    go_wp2_with fail
    go_ret
    exact ⟨ret_int R.out.symm, below_drewN B7.out _⟩
  have d4 : decide (a < lo) = false := decide_eq_false h4
  by_cases h5 : d < a
  · have R := Lib.hid (badC_time (st := st) (lo := lo) (hi := hi) (p := some (s1, a1, t1, o1, u1)) (x := (s, a, d, o, u)) h1 h2 (onC_no h3) (.inr (.inl h5)))
    clear h1 h2 h3 h4
    go_enter Tryz.func112, Tryz.ntmps112
    go_wp2_with fail
    go_quiet (fail)
    go_wp2_with fail
    go_ret
    exact ⟨ret_int R.out.symm, below_drewN B7.out _⟩
  have d5 : decide (d < a) = false := decide_eq_false h5
  by_cases h6 : hi < d
  · have R := Lib.hid (badC_time (st := st) (lo := lo) (hi := hi) (p := some (s1, a1, t1, o1, u1)) (x := (s, a, d, o, u)) h1 h2 (onC_no h3) (.inr (.inr h6)))
    clear h1 h2 h3 h4 h5
    go_enter Tryz.func112, Tryz.ntmps112
    go_wp2_with fail
    go_quiet (fail)
    go_wp2_with fail
    go_ret
    exact ⟨ret_int R.out.symm, below_drewN B7.out _⟩
  have d6 : decide (hi < d) = false := decide_eq_false h6
  by_cases h7 : a < t1
  · have R := Lib.hid (badC_over (st := st) (lo := lo) (hi := hi) (p := some (s1, a1, t1, o1, u1)) (x := (s, a, d, o, u)) h1 h2 (onC_no h3) h4 h5 h6 (ovC_yes h7))
    clear h1 h2 h3 h4 h5 h6
    go_enter Tryz.func112, Tryz.ntmps112
    go_wp2_with fail
    go_quiet (fail)
    go_wp2_with fail
    go_quiet (fail)
    go_wp2_with fail
    go_ret
    exact ⟨ret_int R.out.symm, below_drewN (below_drewN B7.out _) _⟩
  have d7 : decide (a < t1) = false := decide_eq_false h7
  have R := Lib.hid (badC_none (st := st) (lo := lo) (hi := hi) (p := some (s1, a1, t1, o1, u1)) (x := (s, a, d, o, u)) h1 h2 (onC_no h3) h4 h5 h6 (ovC_no h7))
  clear h1 h2 h3 h4 h5 h6 h7
  go_enter Tryz.func112, Tryz.ntmps112
  go_wp2_with fail
  go_quiet (fail)
  go_wp2_with fail
  go_quiet (fail)
  go_wp2_with fail
  go_ret
  exact ⟨ret_int R.out.symm, below_drewN (below_drewN B7.out _) _⟩
set_option maxRecDepth 100000 in
set_option maxHeartbeats 4000000 in
theorem kcall_any (v : Value) (l : List Cl) (hl : l.length ≤ 9223372036854775807) (st lo hi s a d : Int) (o u : Bool) (n : Nat) (hx : l[n]? = some (s, a, d, o, u)) (w : World) (h : LstC w v l) : Calls Tryz.prog 112 #[v, .int .i64 (n : Int), .int .i64 st, .int .i64 lo, .int .i64 hi] w fun e w' => e = .returned (.int .i64 (badC st lo hi (prvC l n) (s, a, d, o, u))) ∧ Below w.heap.size w w' := by
  cases n with
  | zero => exact kcall_first v l hl st lo hi s a d o u hx w h
  | succ m =>
    have hlt := (List.getElem?_eq_some_iff.1 hx).1
    obtain ⟨⟨s1, a1, t1, o1, u1⟩, hy⟩ := at_lt (show m < l.length by omega)
    have e : prvC l (m + 1) = some (s1, a1, t1, o1, u1) := hy
    rw [e]
    exact kcall_later v l hl st lo hi s a d o u (m + 1) m rfl hx s1 a1 t1 o1 u1 hy w h
set_option maxRecDepth 100000 in
set_option maxHeartbeats 4000000 in
theorem kcheck_any (v : Value) (l : List Cl) (hl : l.length ≤ 9223372036854775807) (st lo hi : Int) (w : World) (h : LstC w v l) : Calls Tryz.prog 80 #[v, .int .i64 st, .int .i64 lo, .int .i64 hi] w fun e w' => e = .returned (.tuple #[.int .i64 ((chkC st lo hi l).1), .int .i64 ((chkC st lo hi l).2)]) ∧ Below w.heap.size w w' := by
  have H := Lib.hid h
  obtain ⟨A, c, rfl, -, -, -⟩ := h
  by_cases h2 : l.length < 2
  · have R := Lib.hid (chkC_few (st := st) (lo := lo) (hi := hi) h2)
    have g : (l.length : Int) < 2 := by omega
    generalize chkC st lo hi l = q at R ⊢
    clear h2
    go_enter Tryz.func80, Tryz.ntmps80
    go_wp2_with fail
    go_ret2
    exact ⟨ret_chk (by rw [R.out]) (by rw [R.out]), Below.refl _ _⟩
  have g2 : decide ((l.length : Int) < 2) = false := by rw [decide_eq_false_iff_not]; omega
  by_cases h32 : 32 < l.length
  · have R := Lib.hid (chkC_many (st := st) (lo := lo) (hi := hi) h32)
    have g : (32 : Int) < (l.length : Int) := by omega
    generalize chkC st lo hi l = q at R ⊢
    clear h32 h2
    go_enter Tryz.func80, Tryz.ntmps80
    go_wp2_with fail
    go_ret2
    exact ⟨ret_chk (by rw [R.out]) (by rw [R.out]), Below.refl _ _⟩
  have g : decide ((32 : Int) < (l.length : Int)) = false := by rw [decide_eq_false_iff_not]; omega
  have ST := Lib.hid (chkC_start (st := st) (lo := lo) (hi := hi) h2 h32)
  obtain ⟨q, hq⟩ : ∃ q, chkC st lo hi l = q := ⟨_, rfl⟩
  rw [hq]
  rw [hq] at ST
  clear h32 hq h2
  go_enter Tryz.func80, Tryz.ntmps80
  go_wp2_with fail
  go_loopw [22] (fun i wr => ∃ k : Nat, i = .int .i64 k ∧ k ≤ l.length ∧ Hid (q = ckF st lo hi (prvC l k) k (l.drop k)) ∧ Hid (Below w.heap.size w wr)) (fun i _ => l.length - (intOf i).toNat)
  case atStart => exact ⟨0, rfl, Nat.zero_le _, ST, Lib.hid (Below.refl _ _)⟩
  case round =>
    clear g g2 ST
    obtain ⟨k, rfl, hk, hz, HB⟩ := hrel
    by_cases hlt : k < l.length
    · obtain ⟨⟨s, a, d, o, u⟩, hx⟩ := at_lt hlt
      have gk : (k : Int) < (l.length : Int) := by omega
      have C := Lib.hid (kcall_any _ l hl st lo hi s a d o u k hx wr (H.out.below HB.out))
      by_cases he : badC st lo hi (prvC l k) (s, a, d, o, u) = 0
      · have N := Lib.hid (ck_next hz.out hx he)
        rw [he] at C
        clear hx hz he
        go_wp2_with fail
        refine C.out.mono ?_
        rintro e w8 ⟨rfl, b8⟩
        have B8 : Hid (Below w.heap.size w w8) := HB.out.trans (b8.mono HB.out.size)
        clear b8 C HB
        go_wp2_with fail
        go_roundw
        case rel => exact ⟨k + 1, by go_num, by omega, N, B8⟩
        case measure => simp [intOf]; omega
      · have R := Lib.hid (ck_stop hz.out hx rfl he)
        have ne := bne_true he
        generalize badC st lo hi (prvC l k) (s, a, d, o, u) = y at C R ne
        clear hx hz he
        go_wp2_with fail
        refine C.out.mono ?_
        rintro e w8 ⟨rfl, b8⟩
        have B8 : Hid (Below w.heap.size w w8) := HB.out.trans (b8.mono HB.out.size)
        clear b8 C HB
        go_wp2_with fail
        go_ret2
        exact ⟨ret_chk (by rw [R.out]) (by rw [R.out]), B8.out⟩
    · have R := Lib.hid (ck_done hz.out (by omega))
      have d : decide (k < l.length) = false := by rw [decide_eq_false_iff_not]; exact hlt
      clear hz hlt
      go_wp2_with fail
      go_ret2
      exact ⟨ret_chk (by rw [R.out]) (by rw [R.out]), HB.out⟩
end Go.Proofs.YtkhalnjgbdpfhaaGreat.S17
namespace Go.Proofs.YtkhalnjgbdpfhaaGreat.S17
set_option maxRecDepth 100000
open Go.RowKit

/-- Valid, whatever the length. -/
theorem valid_all_any (s : ByteArray) (w : World) : Calls Tryz.prog 78 #[.string s] w fun e w' => e = .returned (.bool (validB s.data.toList)) ∧ w = w' := by
  by_cases hs : s.size ≤ 1099511627776
  · exact valid_any s hs w
  have e := valid_long s (by omega)
  have he : s.toList.isEmpty = false := by rw [nil_iff, decide_eq_false_iff_not]; omega
  have g : (32 : Int) < (s.size : Int) := by omega
  clear hs
  rw [e]
  go_enter Tryz.func78, Tryz.ntmps78
  go_wp2_with fail
  go_ret
  exact ⟨rfl, rfl⟩
theorem valid_small {s : ByteArray} {id : List UInt8} (hs : str id = s) (hv : validB id = true) : s.size ≤ 32 := by
  rw [← hs, size_str]
  exact valid_le hv
theorem isx_yes (i n : Int) (h : 0 ≤ i ∧ i < n) (w : World) : Calls Tryz.prog 79 #[.int .i64 i, .int .i64 n] w fun e w' => e = .returned (.bool true) ∧ w = w' := by
  obtain ⟨h0, h1⟩ := h
  go_enter Tryz.func79, Tryz.ntmps79
  go_wp2_with fail
  go_ret
  exact ⟨rfl, rfl⟩
theorem isx_no (i n : Int) (h : ¬ (0 ≤ i ∧ i < n)) (w : World) : Calls Tryz.prog 79 #[.int .i64 i, .int .i64 n] w fun e w' => e = .returned (.bool false) ∧ w = w' := by
  by_cases h0 : 0 ≤ i
  · have d : decide (i < n) = false := decide_eq_false (fun h1 => h ⟨h0, h1⟩)
    clear h
    go_enter Tryz.func79, Tryz.ntmps79
    go_wp2_with fail
    go_ret
    exact ⟨rfl, rfl⟩
  · have d : decide (0 ≤ i) = false := decide_eq_false h0
    clear h h0
    go_enter Tryz.func79, Tryz.ntmps79
    go_wp2_with fail
    go_ret
    exact ⟨rfl, rfl⟩
set_option maxRecDepth 100000 in
set_option maxHeartbeats 8000000 in
theorem ktck_any (v : Value) (l : List Tp) (hl : l.length ≤ 9223372036854775807) (st ro ca : Int) (w : World) (h : LstTp w v l) : Calls Tryz.prog 50 #[v, .int .i64 st, .int .i64 ro, .int .i64 ca] w fun e w' => e = .returned (.tuple #[.int .i64 ((chkT st ro ca l).1), .int .i64 ((chkT st ro ca l).2)]) ∧ Below w.heap.size w w' := by
  have H := Lib.hid h
  obtain ⟨⟨A, n, rfl, -, -, -⟩, -⟩ := h
  by_cases hm : 256 < l.length
  · have R := Lib.hid (chkT_many (st := st) (ro := ro) (ca := ca) hm)
    have g : (256 : Int) < (l.length : Int) := by omega
    generalize chkT st ro ca l = q at R ⊢
    clear hm
    go_enter Tryz.func50, Tryz.ntmps50
    go_wp2_with fail
    go_ret2
    exact ⟨ret_chk (by rw [R.out]) (by rw [R.out]), Below.refl _ _⟩
  have g : decide ((256 : Int) < (l.length : Int)) = false := by rw [decide_eq_false_iff_not]; omega
  have ST := Lib.hid (chkT_start (st := st) (ro := ro) (ca := ca) (l := l) (by omega))
  have hm' : l.length ≤ 256 := by omega
  have hmm := @run_makeMap Tryz.prog
  obtain ⟨q, hq⟩ : ∃ q, chkT st ro ca l = q := ⟨_, rfl⟩
  rw [hq]
  rw [hq] at ST
  clear hm hq
  go_enter Tryz.func50, Tryz.ntmps50
  go_wp2_with fail
  go_loopw [21] (fun i wr => ∃ k : Nat, i = .int .i64 k ∧ k ≤ l.length ∧ Hid (q = fbF (badT st ro ca) idT ((l.take k).map idT) k (l.drop k)) ∧ Hid (MapB wr w.heap.size ((l.take k).map idT)) ∧ Hid (Below w.heap.size w wr)) (fun i _ => l.length - (intOf i).toNat)
  case atStart => exact ⟨0, rfl, Nat.zero_le _, ST, Lib.hid (MapB.made w), Lib.hid ((Below.refl _ _).alloc (Nat.le_refl _) _)⟩
  case round =>
    clear g ST hmm
    obtain ⟨k, rfl, hk, hz, HM, HB⟩ := hrel
    by_cases hlt : k < l.length
    · obtain ⟨⟨id, r, c, f, v, cl⟩, hx⟩ := at_lt hlt
      obtain ⟨nm, hnm⟩ : ∃ nm, str id = nm := ⟨_, rfl⟩
      obtain ⟨b, o, B, m, rfl, rfl, hb, r0, r1, r2, r3, r4, lc, lcl, -⟩ := trip_at (H.out.below HB.out) hx hnm
      obtain ⟨w7, hw7⟩ : ∃ W, wr.alloc (.cells #[.string nm, .int .i64 r, .int .i64 c, .bool f, .slice B cl.length m] 49 (0, 0)) = W := ⟨_, rfl⟩
      obtain ⟨b7, p0, p1, p2, p3, p4, s7⟩ := box_tp hw7
      have gk : (k : Int) < (l.length : Int) := by omega
      have hid : nm.data.toList = id := by rw [← hnm]
      have B7 : Hid (Below w.heap.size w w7) := HB.out.trans (b7.mono HB.out.size)
      have M7 := Lib.hid (HM.out.below b7)
      have L7 := Lib.hid (lc.below b7)
      have V := Lib.hid (fun W => valid_all_any nm W)
      rw [hid] at V
      clear b7 HM HB hb lc
      cases hv : validB id with
      | false =>
        have R := Lib.hid (fb_stop hz.out hx (badT_name (seen := (l.take k).map idT) (x := (id, r, c, f, .slice B cl.length m, cl)) hv) (by decide))
        rw [hv] at V
        clear hx hz hnm hid hv
        go_wp2_with fail
        refine (V.out _).mono ?_
        rintro e w' ⟨rfl, rfl⟩
        go_wp2_with fail
        go_ret2
        exact ⟨ret_chk (by rw [R.out]) (by rw [R.out]), B7.out⟩
      | true =>
        rw [hv] at V
        have lk := M7.out.look nm id hid (by have := valid_small hnm hv; omega)
        by_cases hd : id ∈ (l.take k).map idT
        · have R := Lib.hid (fb_stop hz.out hx (badT_twice (seen := (l.take k).map idT) (x := (id, r, c, f, .slice B cl.length m, cl)) hv hd) (by decide))
          rw [decide_eq_true hd] at lk
          clear hx hz hnm hid hv hd
          go_wp2_with fail
          refine (V.out _).mono ?_
          rintro e w' ⟨rfl, rfl⟩
          go_wp2_with fail
          go_ret2
          exact ⟨ret_chk (by rw [R.out]) (by rw [R.out]), B7.out⟩
        rw [decide_eq_false hd] at lk
        by_cases hr : 0 ≤ r ∧ r < ro
        · by_cases hc : 0 ≤ c ∧ c < ca
          · have X1 := Lib.hid (fun W => isx_yes r ro hr W)
            have X2 := Lib.hid (fun W => isx_yes c ca hc W)
            have CK := Lib.hid (kcheck_any (.slice B cl.length m) cl lcl st 0 172800 w7 L7.out)
            have BE := Lib.hid (badT_calls (st := st) (seen := (l.take k).map idT) (x := (id, r, c, f, .slice B cl.length m, cl)) hv hd ⟨hr, hc⟩)
            by_cases he : (chkC st 0 172800 cl).2 = 0
            · have N := Lib.hid (fb_next hz.out hx (BE.out.trans he))
              have T := Lib.hid (key_take (key := idT) hx)
              have hil : ((l.take k).map idT).length ≤ 256 := by rw [List.length_map, List.length_take]; omega
              have HD : Hid (nm.data.toList = id) := hid
              have hsz := valid_small hnm hv
              rw [he] at CK
              generalize (chkC st 0 172800 cl).1 = y at CK
              clear hx hz hnm hid hv hd hr hc he BE
              go_wp2_with fail
              refine (V.out _).mono ?_
              rintro e w' ⟨rfl, rfl⟩
              go_wp2_with fail
              refine (X1.out _).mono ?_
              rintro e w' ⟨rfl, rfl⟩
              go_wp2_with fail
              refine (X2.out _).mono ?_
              rintro e w' ⟨rfl, rfl⟩
              go_wp2_with fail
              refine CK.out.mono ?_
              rintro e w8 ⟨rfl, b8⟩
              have q0 := (b8.cell (p := ⟨wr.heap.size, 0, none⟩) s7).trans p0
              have B8 : Hid (Below w.heap.size w w8) := B7.out.trans (b8.mono B7.out.size)
              have M8 := Lib.hid (M7.out.below b8)
              clear b8 p0 p1 p2 p3 p4 B7 M7 CK V X1 X2 lk L7 r0 r1 r2 r3 r4 hw7
              go_wp2_with (at_mapUpdate; refine put_bool _ rfl _ _ _ rfl w.heap.size ((l.take k).map idT) rfl M8.out nm id HD.out (by omega) rfl rfl (by omega) ?_; intro w9 m9 g9; refine Hid.out ?_)
              have M : Hid (MapB w9 w.heap.size ((l.take (k + 1)).map idT)) := by
                show MapB _ _ _
                rw [T.out]
                exact m9
              have B9 : Hid (Below w.heap.size w w9) := B8.out.grown g9 B8.out.size (fun j hj => by cases hj; exact Nat.le_refl _)
              clear m9 g9 M8 B8
              refine Lib.hid ?_
              go_wp2_with fail
              go_roundw
              case rel => exact ⟨k + 1, by go_num, by omega, N, M, B9⟩
              case measure => simp [intOf]; omega
            · have R := Lib.hid (fb_stop hz.out hx BE.out he)
              have ne := bne_true he
              generalize (chkC st 0 172800 cl).1 = y at CK
              generalize (chkC st 0 172800 cl).2 = z at CK R ne
              clear hx hz hnm hid hv hd hr hc he BE
              go_wp2_with fail
              refine (V.out _).mono ?_
              rintro e w' ⟨rfl, rfl⟩
              go_wp2_with fail
              refine (X1.out _).mono ?_
              rintro e w' ⟨rfl, rfl⟩
              go_wp2_with fail
              refine (X2.out _).mono ?_
              rintro e w' ⟨rfl, rfl⟩
              go_wp2_with fail
              refine CK.out.mono ?_
              rintro e w8 ⟨rfl, b8⟩
              have B8 : Hid (Below w.heap.size w w8) := B7.out.trans (b8.mono B7.out.size)
              clear b8 B7 CK
              go_wp2_with fail
              go_ret2
              exact ⟨ret_chk (by rw [R.out]) (by rw [R.out]), B8.out⟩
          · have R := Lib.hid (fb_stop hz.out hx (badT_ref (seen := (l.take k).map idT) (x := (id, r, c, f, .slice B cl.length m, cl)) hv hd (fun h => hc h.2)) (by decide))
            have X1 := Lib.hid (fun W => isx_yes r ro hr W)
            have X2 := Lib.hid (fun W => isx_no c ca hc W)
            clear hx hz hnm hid hv hd hr hc
            go_wp2_with fail
            refine (V.out _).mono ?_
            rintro e w' ⟨rfl, rfl⟩
            go_wp2_with fail
            refine (X1.out _).mono ?_
            rintro e w' ⟨rfl, rfl⟩
            go_wp2_with fail
            refine (X2.out _).mono ?_
            rintro e w' ⟨rfl, rfl⟩
            go_wp2_with fail
            go_ret2
            exact ⟨ret_chk (by rw [R.out]) (by rw [R.out]), B7.out⟩
        · have R := Lib.hid (fb_stop hz.out hx (badT_ref (seen := (l.take k).map idT) (x := (id, r, c, f, .slice B cl.length m, cl)) hv hd (fun h => hr h.1)) (by decide))
          have X1 := Lib.hid (fun W => isx_no r ro hr W)
          clear hx hz hnm hid hv hd hr
          go_wp2_with fail
          refine (V.out _).mono ?_
          rintro e w' ⟨rfl, rfl⟩
          go_wp2_with fail
          refine (X1.out _).mono ?_
          rintro e w' ⟨rfl, rfl⟩
          go_wp2_with fail
          go_ret2
          exact ⟨ret_chk (by rw [R.out]) (by rw [R.out]), B7.out⟩
    · have R := Lib.hid (fb_done hz.out (by omega))
      have d : decide (k < l.length) = false := by rw [decide_eq_false_iff_not]; exact hlt
      clear hz hlt HM
      go_wp2_with fail
      go_ret2
      exact ⟨ret_chk (by rw [R.out]) (by rw [R.out]), HB.out⟩
end Go.Proofs.YtkhalnjgbdpfhaaGreat.S17
namespace Go.Proofs.YtkhalnjgbdpfhaaGreat.S17
set_option maxRecDepth 100000
open Go.RowKit

/-! ### Slices of slices -/
/-- A slice: its array, its length, its capacity. -/
abbrev SlT := Option Addr × Nat × Nat
def svV (t : SlT) : Value := .slice t.1 t.2.1 t.2.2
def sv (t : SlT) : List Value := [svV t]
theorem fl_sv (l : List SlT) : fl sv l = l.map svV := by
  induction l with
  | nil => rfl
  | cons a r ih => rw [fl_cons, ih]; rfl
abbrev OwnL := @OwnG SlT sv 137 1
theorem OwnL.atn {w : World} {base g c n : Nat} {l : List SlT} (hl : l.length = n) (h : OwnL w base (.slice (some ⟨g, 0, none⟩) n c) l) {i : Nat} {t : SlT} (ht : l[i]? = some t) : w.cell? ⟨g, i, none⟩ = some (svV t) ∧ w.frozen? ⟨g, i, none⟩ = false := by
  subst hl
  have hi := (List.getElem?_eq_some_iff.1 ht).1
  refine ⟨?_, World.ownsRow.frozenAt h _⟩
  rw [World.ownsRow.cellAt h _ (by omega), fl_sv, List.getElem?_map, ht]
  rfl
/-- The value is a slice of slices that reads as these lists. -/
def LL (w : World) (u : Value) (ls : List (List Int)) : Prop := ∃ ts : List SlT, LstG sv w u ts ∧ ts.length = ls.length ∧ ∀ (i : Nat) t l, ts[i]? = some t → ls[i]? = some l → LstI w (svV t) l
theorem LL.below {w w' : World} {u : Value} {ls : List (List Int)} (h : LL w u ls) (hb : Below w.heap.size w w') : LL w' u ls := by
  obtain ⟨ts, h1, h2, h3⟩ := h
  exact ⟨ts, h1.below hb, h2, fun i t l ht hl => (h3 i t l ht hl).below hb⟩
/-- An element. -/
theorem LL.at {w : World} {A : Option Addr} {n c : Nat} {ls : List (List Int)} (h : LL w (.slice A n c) ls) {i : Nat} {l : List Int} (hl : ls[i]? = some l) : n = ls.length ∧ ∃ b o t, A = some ⟨b, o, none⟩ ∧ b < w.heap.size ∧ w.cell? ⟨b, o + i, none⟩ = some (svV t) ∧ LstI w (svV t) l := by
  obtain ⟨ts, ⟨A', c', hv, _, _, hx⟩, h2, h3⟩ := h
  have hi := (List.getElem?_eq_some_iff.1 hl).1
  cases hv
  obtain ⟨t, ht⟩ := at_lt (l := ts) (k := i) (by omega)
  obtain ⟨b, o, rfl, hb, hcell⟩ := hx (by omega)
  exact ⟨h2, b, o, t, rfl, hb, hcell i _ (by rw [fl_sv, List.getElem?_map, ht]; rfl), h3 i t l ht hl⟩
theorem LL.len {w : World} {u : Value} {ls : List (List Int)} (h : LL w u ls) : ∃ A c, u = .slice A ls.length c := by
  obtain ⟨ts, ⟨A, c, hv, _⟩, h2, _⟩ := h
  exact ⟨A, c, by rw [hv, h2]⟩
/-- The rows so far: each lies above g. -/
def Rows2 (w : World) (g : Nat) (ts : List SlT) (ls : List (List Int)) : Prop := ts.length = ls.length ∧ ∀ (i : Nat) t l, ts[i]? = some t → ls[i]? = some l → OwnI w g (svV t) l
theorem Rows2.below {w w' : World} {g : Nat} {ts : List SlT} {ls : List (List Int)} (h : Rows2 w g ts ls) (hb : Below w.heap.size w w') : Rows2 w' g ts ls := ⟨h.1, fun i t l ht hl => (h.2 i t l ht hl).below hb⟩
end Go.Proofs.YtkhalnjgbdpfhaaGreat.S17
namespace Go.Proofs.YtkhalnjgbdpfhaaGreat.S17
set_option maxRecDepth 100000
open Go.RowKit

theorem own_type {w : World} {base : Nat} {T : TypeId} {k : Nat} {v : Value} {n : Nat} {xs : List Value} (h : w.ownsRow base T k v n xs) {g : Nat} (hg : v.ownBlock = some g) : base ≤ g ∧ g < w.heap.size ∧ ∃ cs, w.heap[g]? = some (.cells cs T (0, 0)) := by
  rcases h.2 with ⟨h0, _⟩ | ⟨g', cap, cur, hv, hbg, hgk, hr⟩
  · rw [h0] at hg
    cases hg
  · rw [hv] at hg
    cases hg
    refine ⟨hbg, ?_, cur, hgk⟩
    rcases Nat.lt_or_ge g' w.heap.size with h | h
    · exact h
    · rw [Array.getElem?_eq_none h] at hgk; cases hgk
theorem own_apart {w : World} {base base' : Nat} {T T' : TypeId} {k k' : Nat} {v v' : Value} {n n' : Nat} {xs xs' : List Value} (h : w.ownsRow base T k v n xs) (h' : w.ownsRow base' T' k' v' n' xs') (hT : T ≠ T') {g : Nat} (hg : v.ownBlock = some g) : some g ≠ v'.ownBlock := by
  intro e
  obtain ⟨_, _, cs, h1⟩ := own_type h hg
  obtain ⟨_, _, cs', h2⟩ := own_type h' e.symm
  rw [h1] at h2
  cases h2
  exact hT rfl
/-- A slice of slices of the call's own, its rows the call's own too, each in a block of its own. -/
structure Gs (w : World) (base : Nat) (gv : Value) (ts : List SlT) (gs : List (List Int)) : Prop where
  row : OwnL w base gv ts
  len : ts.length = gs.length
  rows : ∀ (i : Nat) t g, ts[i]? = some t → gs[i]? = some g → OwnI w base (svV t) g
  apart : ∀ (i j : Nat) t u, ts[i]? = some t → ts[j]? = some u → i ≠ j → ∀ g, (svV t).ownBlock = some g → (svV u).ownBlock ≠ some g
theorem Gs.keep {w w' : World} {base : Nat} {gv : Value} {ts : List SlT} {gs : List (List Int)} (h : Gs w base gv ts gs) (hk : ∀ j, base ≤ j → j < w.heap.size → w'.heap[j]? = w.heap[j]?) : Gs w' base gv ts gs :=
  ⟨ownK_keep h.row hk, h.len, fun i t g ht hg => own_keep (h.rows i t g ht hg) hk, h.apart⟩
theorem Gs.below {w w' : World} {base : Nat} {gv : Value} {ts : List SlT} {gs : List (List Int)} (h : Gs w base gv ts gs) (hb : Below w.heap.size w w') : Gs w' base gv ts gs := h.keep fun j _ hj => hb.block j hj
/-- Which row stands at an index. -/
theorem Gs.at {w : World} {base : Nat} {gv : Value} {ts : List SlT} {gs : List (List Int)} (h : Gs w base gv ts gs) {i : Nat} {g : List Int} (hg : gs[i]? = some g) : ∃ t, ts[i]? = some t ∧ OwnI w base (svV t) g := by
  obtain ⟨t, ht⟩ := at_lt (l := ts) (k := i) (by rw [h.len]; exact (List.getElem?_eq_some_iff.1 hg).1)
  exact ⟨t, ht, h.rows i t g ht hg⟩
/-- What a row's value is, and its cells: of the outer row at an index, of the row at another. -/
theorem Gs.cell {w : World} {base : Nat} {A : Option Addr} {n c : Nat} {ts : List SlT} {gs : List (List Int)} (h : Gs w base (.slice A n c) ts gs) {i : Nat} {g : List Int} (hg : gs[i]? = some g) {j : Nat} {x : Int} (hx : g[j]? = some x) :
    n = gs.length ∧ ∃ gb b k, A = some ⟨gb, 0, none⟩ ∧ base ≤ gb ∧ gb < w.heap.size ∧ base ≤ b ∧ b < w.heap.size ∧ gb ≠ b ∧ ts[i]? = some (some ⟨b, 0, none⟩, g.length, k) ∧ w.cell? ⟨gb, i, none⟩ = some (.slice (some ⟨b, 0, none⟩) g.length k) ∧ w.cell? ⟨b, j, none⟩ = some (.int .i64 x) ∧ w.frozen? ⟨b, j, none⟩ = false := by
  obtain ⟨t, ht, ho⟩ := h.at hg
  have hi := (List.getElem?_eq_some_iff.1 hg).1
  have hj := (List.getElem?_eq_some_iff.1 hx).1
  rcases OwnI.low ho with ⟨-, e⟩ | ⟨b, k, e, h1, h2, h3⟩
  · rw [e] at hj; exact absurd hj (Nat.not_lt_zero _)
  rw [e] at ho
  obtain ⟨c1, f1⟩ := OwnI.at ho hx
  obtain ⟨A', n', k'⟩ := t
  have e' : (Value.slice A' n' k') = .slice (some ⟨b, 0, none⟩) g.length k := e
  injection e' with q1 q2 q3
  subst q1 q2 q3
  have hrow := h.row
  obtain ⟨A2, c2, hv, hc2, hA⟩ := ownK_shape hrow
  have hlen : n = gs.length := by
    have := congrArg (fun v => match v with | Value.slice _ m _ => m | _ => 0) hv
    simp only at this
    rw [this, h.len]
  have hgb : ∃ gb, A = some ⟨gb, 0, none⟩ ∧ base ≤ gb ∧ gb < w.heap.size := by
    rcases hrow.2 with ⟨h0, h00⟩ | ⟨g', cap, cur, h0, hbg, hgk, -⟩
    · have := h.len; omega
    · injection h0 with q1 _ _
      refine ⟨g', q1, hbg, ?_⟩
      rcases Nat.lt_or_ge g' w.heap.size with hh | hh
      · exact hh
      · rw [Array.getElem?_eq_none hh] at hgk; cases hgk
  obtain ⟨gb, rfl, hb1, hb2⟩ := hgb
  have hcell := (OwnL.atn (n := n) (by rw [h.len]; exact hlen.symm) hrow ht).1
  refine ⟨hlen, gb, b, _, rfl, hb1, hb2, h1, h2, fun e => ?_, ht, hcell, c1, f1⟩
  exact own_apart hrow ho (by decide) (g := gb) rfl (by rw [e]; rfl)
end Go.Proofs.YtkhalnjgbdpfhaaGreat.S17
namespace Go.Proofs.YtkhalnjgbdpfhaaGreat.S17
set_option maxRecDepth 100000
open Go.RowKit

end Go.Proofs.YtkhalnjgbdpfhaaGreat.S17
namespace Go.Proofs.YtkhalnjgbdpfhaaGreat.S17
set_option maxRecDepth 100000
open Go.RowKit

end Go.Proofs.YtkhalnjgbdpfhaaGreat.S17
namespace Go.Proofs.YtkhalnjgbdpfhaaGreat.S17
set_option maxRecDepth 100000
open Go.RowKit

end Go.Proofs.YtkhalnjgbdpfhaaGreat.S17
namespace Go.Proofs.YtkhalnjgbdpfhaaGreat.S17
set_option maxRecDepth 100000
open Go.RowKit

set_option maxRecDepth 100000 in
set_option maxHeartbeats 4000000 in
theorem rfind_any (v : Value) (l : List Tp) (hl : l.length ≤ 1099511627776) (id : List UInt8) (t : ByteArray) (ht : str id = t) (w : World) (h : LstTp w v l) : Calls Tryz.prog 129 #[v, .string t] w fun e w' => e = .returned (.int .i64 (fdT (isT id) l)) ∧ w = w' := by
  have H := Lib.hid h
  have HT := Lib.hid ht
  clear ht
  obtain ⟨⟨A, n, rfl, -, -, -⟩, -⟩ := h
  obtain ⟨q, hq⟩ : ∃ q, fdT (isT id) l = q := ⟨_, rfl⟩
  rw [hq]
  have HR := Lib.hid hq
  clear hq
  go_enter Tryz.func129, Tryz.ntmps129
  go_wp2_with fail
  go_loop [5] (fun i => ∃ k : Nat, i = .int .i64 k ∧ k ≤ l.length ∧ Hid (q = fdF (isT id) k (l.drop k))) (fun i => l.length - (intOf i).toNat)
  case atStart => exact ⟨0, rfl, Nat.zero_le _, Lib.hid (by rw [← HR.out]; rfl)⟩
  case round =>
    obtain ⟨k, rfl, hk, hz⟩ := hrel
    by_cases hlt : k < l.length
    · obtain ⟨⟨ix, r, c, f, v, cl⟩, hx⟩ := at_lt hlt
      obtain ⟨nm, hnm⟩ : ∃ nm, str ix = nm := ⟨_, rfl⟩
      obtain ⟨b, o, B, m, rfl, rfl, hb, r0, r1, r2, r3, r4, -, -, -⟩ := trip_at H.out hx hnm
      have gk : (k : Int) < (l.length : Int) := by omega
      by_cases he : ix = id
      · have g := bytes_eq (a := nm) (b := t) (by rw [← hnm, ← HT.out, he])
        have R := Lib.hid (fd_hit hz.out hx (isT_yes he))
        clear hx hz hnm hb he hlt HR HT r1 r2 r3 r4
        go_wp2_with fail
        go_ret
        exact ⟨ret_int R.out.symm, rfl⟩
      · have g := bytes_ne (a := nm) (b := t) (str_ne hnm HT.out he)
        have N := Lib.hid (fd_miss hz.out hx (isT_no he))
        clear hx hz hnm hb he r1 r2 r3 r4
        go_wp2_with fail
        go_round
        case rel => exact ⟨k + 1, by go_num, by omega, N⟩
        case measure => simp [intOf]; omega
    · have R := Lib.hid (fd_end hz.out (by omega))
      have d : decide (k < l.length) = false := by rw [decide_eq_false_iff_not]; exact hlt
      clear hz hlt HR HT
      go_wp2_with fail
      go_ret
      exact ⟨ret_int R.out.symm, rfl⟩
end Go.Proofs.YtkhalnjgbdpfhaaGreat.S17
namespace Go.Proofs.YtkhalnjgbdpfhaaGreat.S17
set_option maxRecDepth 100000
open Go.RowKit

set_option maxRecDepth 100000 in
set_option maxHeartbeats 8000000 in
theorem rcalls_any (v : Value) (l : List Cl) (hl : l.length ≤ 9223372036854775807) (st : Int) (w : World) (h : LstC w v l) : Calls Tryz.prog 130 #[v, .int .i64 st] w fun e w' => e = .returned (.int .i64 ((chkC st 0 172800 l).2)) ∧ Below w.heap.size w w' := by
  have H := Lib.hid h
  obtain ⟨A, c, rfl, -, -, -⟩ := h
  by_cases h2 : l.length < 2
  · have R := Lib.hid (chkC_few (st := st) (lo := 0) (hi := 172800) h2)
    have g : (l.length : Int) < 2 := by omega
    generalize chkC st 0 172800 l = q at R ⊢
    clear h2
    go_enter Tryz.func130, Tryz.ntmps130
    go_wp2_with fail
    go_ret
    exact ⟨ret_int (by rw [R.out]), Below.refl _ _⟩
  have g2 : decide ((l.length : Int) < 2) = false := by rw [decide_eq_false_iff_not]; omega
  by_cases h32 : 32 < l.length
  · have R := Lib.hid (chkC_many (st := st) (lo := 0) (hi := 172800) h32)
    have g : (32 : Int) < (l.length : Int) := by omega
    generalize chkC st 0 172800 l = q at R ⊢
    clear h32 h2
    go_enter Tryz.func130, Tryz.ntmps130
    go_wp2_with fail
    go_ret
    exact ⟨ret_int (by rw [R.out]), Below.refl _ _⟩
  have g : decide ((32 : Int) < (l.length : Int)) = false := by rw [decide_eq_false_iff_not]; omega
  have ST := Lib.hid (chkC_start (st := st) (lo := 0) (hi := 172800) h2 h32)
  obtain ⟨q, hq⟩ : ∃ q, chkC st 0 172800 l = q := ⟨_, rfl⟩
  rw [hq]
  rw [hq] at ST
  clear h32 hq h2
  go_enter Tryz.func130, Tryz.ntmps130
  go_wp2_with fail
  go_loopw [5] (fun i wr => ∃ k : Nat, i = .int .i64 k ∧ k ≤ l.length ∧ Hid (q = ckF st 0 172800 (prvC l k) k (l.drop k)) ∧ Hid (Below w.heap.size w wr)) (fun i _ => l.length - (intOf i).toNat)
  case atStart => exact ⟨0, rfl, Nat.zero_le _, ST, Lib.hid (Below.refl _ _)⟩
  case round =>
    clear g g2 ST
    obtain ⟨k, rfl, hk, hz, HB⟩ := hrel
    by_cases hlt : k < l.length
    · obtain ⟨⟨s, a, d, o, u⟩, hx⟩ := at_lt hlt
      obtain ⟨b, f, rfl, hb, r0, r1, r2, r3, r4⟩ := five_at (H.out.below HB.out) hx
      have gk : (k : Int) < (l.length : Int) := by omega
      have B7 := Lib.hid HB.out
      clear hb
      by_cases k0 : k = 0
      · have hp : prvC l k = none := by rw [k0]; rfl
        have gn : decide ((0 : Int) < (k : Int)) = false := by rw [decide_eq_false_iff_not]; omega
        have gn' : decide (0 < k) = false := by rw [decide_eq_false_iff_not]; omega
        clear k0
        by_cases h1 : s < 0
        · have R := Lib.hid (ck_stop (e := 9) hz.out hx (by rw [hp]; exact badC_ref (st := st) (lo := 0) (hi := 172800) (p := none) (x := (s, a, d, o, u)) (.inl h1)) (by decide))
          clear hz hx hp HB 
          go_wp2_with fail
          go_ret
          exact ⟨ret_int (by rw [R.out]), B7.out⟩
        have d1 : decide (s < 0) = false := decide_eq_false h1
        by_cases h2 : st ≤ s
        · have R := Lib.hid (ck_stop (e := 9) hz.out hx (by rw [hp]; exact badC_ref (st := st) (lo := 0) (hi := 172800) (p := none) (x := (s, a, d, o, u)) (.inr h2)) (by decide))
          clear hz hx hp HB h1
          go_wp2_with fail
          go_ret
          exact ⟨ret_int (by rw [R.out]), B7.out⟩
        have d2 : decide (st ≤ s) = false := decide_eq_false h2
        by_cases h4 : a < 0
        · have R := Lib.hid (ck_stop (e := 10) hz.out hx (by rw [hp]; exact badC_time (st := st) (lo := 0) (hi := 172800) (p := none) (x := (s, a, d, o, u)) h1 h2 onC_none (.inl h4)) (by decide))
          clear hz hx hp HB h1 h2
          go_wp2_with fail
          go_quiet (fail)
          go_wp2_with fail
          go_quiet (fail)
          go_wp2_with fail
          go_ret
          exact ⟨ret_int (by rw [R.out]), below_drewN (below_drewN B7.out _) _⟩
        have d4 : decide (a < 0) = false := decide_eq_false h4
        by_cases h5 : d < a
        · have R := Lib.hid (ck_stop (e := 10) hz.out hx (by rw [hp]; exact badC_time (st := st) (lo := 0) (hi := 172800) (p := none) (x := (s, a, d, o, u)) h1 h2 onC_none (.inr (.inl h5))) (by decide))
          clear hz hx hp HB h1 h2 h4
          go_wp2_with fail
          go_quiet (fail)
          go_wp2_with fail
          go_quiet (fail)
          go_wp2_with fail
          go_ret
          exact ⟨ret_int (by rw [R.out]), below_drewN (below_drewN B7.out _) _⟩
        have d5 : decide (d < a) = false := decide_eq_false h5
        by_cases h6 : (172800 : Int) < d
        · have R := Lib.hid (ck_stop (e := 10) hz.out hx (by rw [hp]; exact badC_time (st := st) (lo := 0) (hi := 172800) (p := none) (x := (s, a, d, o, u)) h1 h2 onC_none (.inr (.inr h6))) (by decide))
          clear hz hx hp HB h1 h2 h4 h5
          go_wp2_with fail
          go_quiet (fail)
          go_wp2_with fail
          go_quiet (fail)
          go_wp2_with fail
          go_ret
          exact ⟨ret_int (by rw [R.out]), below_drewN (below_drewN B7.out _) _⟩
        have d6 : decide ((172800 : Int) < d) = false := decide_eq_false h6
        have N := Lib.hid (ck_next hz.out hx (by rw [hp]; exact badC_none (st := st) (lo := 0) (hi := 172800) (p := none) (x := (s, a, d, o, u)) h1 h2 onC_none h4 h5 h6 ovC_none))
        clear hz hx hp HB h1 h2 h4 h5 h6
        go_wp2_with fail
        go_quiet (fail)
        go_wp2_with fail
        go_quiet (fail)
        go_wp2_with fail
        go_roundw
        case rel => exact ⟨k + 1, by go_num, by omega, N, Lib.hid (below_drewN B7.out _)⟩
        case measure => simp [intOf]; omega
      · obtain ⟨m, hm⟩ : ∃ m, k = m + 1 := ⟨k - 1, by omega⟩
        obtain ⟨⟨s1, a1, t1, o1, u1⟩, hy⟩ := at_lt (show m < l.length by omega)
        have hp : prvC l k = some (s1, a1, t1, o1, u1) := by rw [hm]; exact hy
        obtain ⟨b', f', hA, hb', q0, q1, q2, -, -⟩ := five_at (H.out.below B7.out) hy
        cases hA
        have gm : (m : Int) < (l.length : Int) := by omega
        have gn : (0 : Int) < (k : Int) := by omega
        have gn' : 0 < k := by omega
        have gs : (k : Int) - 1 = (m : Int) := by omega
        clear k0 hm hy hb'
        by_cases h1 : s < 0
        · have R := Lib.hid (ck_stop (e := 9) hz.out hx (by rw [hp]; exact badC_ref (st := st) (lo := 0) (hi := 172800) (p := some (s1, a1, t1, o1, u1)) (x := (s, a, d, o, u)) (.inl h1)) (by decide))
          clear hz hx hp HB 
          go_wp2_with fail
          go_ret
          exact ⟨ret_int (by rw [R.out]), B7.out⟩
        have d1 : decide (s < 0) = false := decide_eq_false h1
        by_cases h2 : st ≤ s
        · have R := Lib.hid (ck_stop (e := 9) hz.out hx (by rw [hp]; exact badC_ref (st := st) (lo := 0) (hi := 172800) (p := some (s1, a1, t1, o1, u1)) (x := (s, a, d, o, u)) (.inr h2)) (by decide))
          clear hz hx hp HB h1
          go_wp2_with fail
          go_ret
          exact ⟨ret_int (by rw [R.out]), B7.out⟩
        have d2 : decide (st ≤ s) = false := decide_eq_false h2
        by_cases h3 : s = s1
        · have e3 := beq_true h3
          have R := Lib.hid (ck_stop (e := 13) hz.out hx (by rw [hp]; exact badC_stop (st := st) (lo := 0) (hi := 172800) (p := some (s1, a1, t1, o1, u1)) (x := (s, a, d, o, u)) h1 h2 (onC_yes h3)) (by decide))
          clear hz hx hp HB h1 h2 h3
          go_wp2_with fail
          go_quiet (fail)
          go_wp2_with fail
          go_ret
          exact ⟨ret_int (by rw [R.out]), below_drewN B7.out _⟩
        have e3 := beq_false h3
        by_cases h4 : a < 0
        · have R := Lib.hid (ck_stop (e := 10) hz.out hx (by rw [hp]; exact badC_time (st := st) (lo := 0) (hi := 172800) (p := some (s1, a1, t1, o1, u1)) (x := (s, a, d, o, u)) h1 h2 (onC_no h3) (.inl h4)) (by decide))
          clear hz hx hp HB h1 h2 h3
          go_wp2_with fail
          go_quiet (fail)
          go_wp2_with fail
          go_quiet (fail)
          go_wp2_with fail
          go_ret
          exact ⟨ret_int (by rw [R.out]), below_drewN (below_drewN B7.out _) _⟩
        have d4 : decide (a < 0) = false := decide_eq_false h4
        by_cases h5 : d < a
        · have R := Lib.hid (ck_stop (e := 10) hz.out hx (by rw [hp]; exact badC_time (st := st) (lo := 0) (hi := 172800) (p := some (s1, a1, t1, o1, u1)) (x := (s, a, d, o, u)) h1 h2 (onC_no h3) (.inr (.inl h5))) (by decide))
          clear hz hx hp HB h1 h2 h3 h4
          go_wp2_with fail
          go_quiet (fail)
          go_wp2_with fail
          go_quiet (fail)
          go_wp2_with fail
          go_ret
          exact ⟨ret_int (by rw [R.out]), below_drewN (below_drewN B7.out _) _⟩
        have d5 : decide (d < a) = false := decide_eq_false h5
        by_cases h6 : (172800 : Int) < d
        · have R := Lib.hid (ck_stop (e := 10) hz.out hx (by rw [hp]; exact badC_time (st := st) (lo := 0) (hi := 172800) (p := some (s1, a1, t1, o1, u1)) (x := (s, a, d, o, u)) h1 h2 (onC_no h3) (.inr (.inr h6))) (by decide))
          clear hz hx hp HB h1 h2 h3 h4 h5
          go_wp2_with fail
          go_quiet (fail)
          go_wp2_with fail
          go_quiet (fail)
          go_wp2_with fail
          go_ret
          exact ⟨ret_int (by rw [R.out]), below_drewN (below_drewN B7.out _) _⟩
        have d6 : decide ((172800 : Int) < d) = false := decide_eq_false h6
        by_cases h7 : a < t1
        · have R := Lib.hid (ck_stop (e := 10) hz.out hx (by rw [hp]; exact badC_over (st := st) (lo := 0) (hi := 172800) (p := some (s1, a1, t1, o1, u1)) (x := (s, a, d, o, u)) h1 h2 (onC_no h3) h4 h5 h6 (ovC_yes h7)) (by decide))
          clear hz hx hp HB h1 h2 h3 h4 h5 h6
          go_wp2_with fail
          go_quiet (fail)
          go_wp2_with fail
          go_quiet (fail)
          go_wp2_with fail
          go_ret
          exact ⟨ret_int (by rw [R.out]), below_drewN (below_drewN B7.out _) _⟩
        have d7 : decide (a < t1) = false := decide_eq_false h7
        have N := Lib.hid (ck_next hz.out hx (by rw [hp]; exact badC_none (st := st) (lo := 0) (hi := 172800) (p := some (s1, a1, t1, o1, u1)) (x := (s, a, d, o, u)) h1 h2 (onC_no h3) h4 h5 h6 (ovC_no h7)))
        clear hz hx hp HB h1 h2 h3 h4 h5 h6 h7
        go_wp2_with fail
        go_quiet (fail)
        go_wp2_with fail
        go_quiet (fail)
        go_wp2_with fail
        go_roundw
        case rel => exact ⟨k + 1, by go_num, by omega, N, Lib.hid (below_drewN B7.out _)⟩
        case measure => simp [intOf]; omega
    · have R := Lib.hid (ck_done hz.out (by omega))
      have d : decide (k < l.length) = false := by rw [decide_eq_false_iff_not]; exact hlt
      clear hz hlt
      go_wp2_with fail
      go_ret
      exact ⟨ret_int (by rw [R.out]), HB.out⟩

/-- Valid of the reference, whatever the length. -/
theorem rvalid_all_any (s : ByteArray) (w : World) : Calls Tryz.prog 96 #[.string s] w fun e w' => e = .returned (.bool (validB s.data.toList)) ∧ w = w' := by
  by_cases hs : s.size ≤ 1099511627776
  · exact rvalid_any s hs w
  have e := valid_long s (by omega)
  have he : ((s.size : Int) == 0) = false := beq_false (by omega)
  have g : (32 : Int) < (s.size : Int) := by omega
  clear hs
  rw [e]
  go_enter Tryz.func96, Tryz.ntmps96
  go_wp2_with fail
  go_ret
  exact ⟨rfl, rfl⟩
theorem info_tp : (Tryz.prog.info? 49).map (fun i => (i.zero, i.size, i.bytes)) = some (some (.agg #[.string ByteArray.empty, .int .i64 0, .int .i64 0, .bool false, .slice none 0 0]), 5, 64) := by kernel_rfl
theorem size_tp : ∀ w, (Go.sizeOf 49).run Tryz.prog w = .ok 5 w := fun w => by
  obtain ⟨i, hi, _, hsz, _⟩ := info_parts info_tp
  simp [sizeOf, typeInfo, hi, hsz]
theorem elem_tps : Tryz.prog.elem 26 = 49 := by simp [Program.elem, Tryz.underlying26]
theorem under_tps : Tryz.prog.underlying 26 = some (.slice (Tryz.prog.elem 26)) := by rw [elem_tps]; exact Tryz.underlying26
/-- l[:j]. -/
theorem trips_to {w : World} {v : Value} {l : List Tp} (h : LstTp w v l) (j : Nat) (hj : j ≤ l.length) (_ : l.length ≤ 9223372036854775807) (e : Int) (he : e = j) : ∃ x, (∀ W, (Instr.slice 26 v none (some (.int .i64 e)) none).run Tryz.prog W = .ok x W) ∧ LstTp w x (l.take j) := by
  subst he
  obtain ⟨H, ok⟩ := h
  have H' := H
  obtain ⟨A, c, rfl, hc, -, -⟩ := H
  refine ⟨sliced A 0 j c 5, fun W => ?_, ?_, fun x hx => ok x (List.mem_of_mem_take hx)⟩
  · rw [run_slice_h W 26 A l.length c under_tps .i64 j (by omega) (by omega), elem_tps, size_tp]
    rfl
  · have := LstG.part te_len H' 0 j c (Nat.zero_le _) hj (by omega) (Nat.le_refl _)
    rw [List.drop_zero, Nat.sub_zero] at this
    exact this
set_option maxRecDepth 100000 in
set_option maxHeartbeats 8000000 in
theorem rone_any (v : Value) (l : List Tp) (hl : l.length ≤ 1099511627776) (k : Nat) (x : Tp) (hx : l[k]? = some x) (st ro ca : Int) (w : World) (h : LstTp w v l) : Calls Tryz.prog 98 #[v, .int .i64 (k : Int), .int .i64 st, .int .i64 ro, .int .i64 ca] w fun e w' => e = .returned (.int .i64 (badT st ro ca ((l.take k).map idT) x)) ∧ Below w.heap.size w w' := by
  obtain ⟨id, r, c, f, v', cl⟩ := x
  have hkl := (List.getElem?_eq_some_iff.1 hx).1
  have gk : (k : Int) < (l.length : Int) := by omega
  have gk' : (k : Int) ≤ (l.length : Int) := by omega
  obtain ⟨nm, hnm⟩ : ∃ nm, str id = nm := ⟨_, rfl⟩
  obtain ⟨x1, run1, lst1⟩ := trips_to h k (by omega) (by omega) (k : Int) rfl
  obtain ⟨⟨A, n, rfl, -, -, -⟩, -⟩ := _root_.id h
  obtain ⟨b, o, B, m, rfl, rfl, hb, r0, r1, r2, r3, r4, lc, lcl, -⟩ := trip_at h hx hnm
  obtain ⟨w7, hw7⟩ : ∃ W, w.alloc (.cells #[.string nm, .int .i64 r, .int .i64 c, .bool f, .slice B cl.length m] 49 (0, 0)) = W := ⟨_, rfl⟩
  obtain ⟨b7, p0, p1, p2, p3, p4, s7⟩ := box_tp hw7
  have hid : nm.data.toList = id := by rw [← hnm]
  have B7 := Lib.hid b7
  have L7 := Lib.hid (lc.below b7)
  have V := Lib.hid (fun W => rvalid_all_any nm W)
  rw [hid] at V
  have P : Hid (∀ n, LstTp (w7.drewN n) x1 (l.take k)) := fun n => lst1.below (b7.trans (below_drewN (Below.refl _ _) n |>.mono b7.size))
  have F := Lib.hid (fun W (hW : LstTp W x1 (l.take k)) => rfind_any x1 (l.take k) (by rw [List.length_take]; omega) id nm hnm W hW)
  have RC := Lib.hid (fun W (hW : LstC W (.slice B cl.length m) cl) => rcalls_any (.slice B cl.length m) cl lcl st W hW)
  obtain ⟨E, hE⟩ : ∃ E, badT st ro ca ((l.take k).map idT) (id, r, c, f, .slice B cl.length m, cl) = E := ⟨_, rfl⟩
  rw [hE]
  have HE := Lib.hid hE
  clear hE b7 hb lc hx h lst1 hnm hid
  cases hv : validB id with
  | false =>
    have R := Lib.hid (badT_name (st := st) (ro := ro) (ca := ca) (seen := (l.take k).map idT) (x := (id, r, c, f, .slice B cl.length m, cl)) hv)
    rw [hv] at V
    clear hv
    go_enter Tryz.func98, Tryz.ntmps98
    go_wp2_with fail
    refine (V.out _).mono ?_
    rintro e w' ⟨rfl, rfl⟩
    go_wp2_with fail
    go_ret
    exact ⟨ret_int (by rw [← HE.out, R.out]), B7.out⟩
  | true =>
    rw [hv] at V
    by_cases hf : 0 ≤ fdT (isT id) (l.take k)
    · have R := Lib.hid (badT_twice (st := st) (ro := ro) (ca := ca) (x := (id, r, c, f, .slice B cl.length m, cl)) hv (fdt_in hf))
      generalize fdT (isT id) (l.take k) = z at F hf
      clear hv
      go_enter Tryz.func98, Tryz.ntmps98
      go_wp2_with fail
      refine (V.out _).mono ?_
      rintro e w' ⟨rfl, rfl⟩
      go_wp2_with fail
      go_quiet ((go_at_call 129; with_reducible exact Calls.quiet_of_same ((F.out _ (P.out _)).mono fun _ _ ⟨a, b⟩ => ⟨a, b.symm⟩)))
      go_wp2_with fail
      go_ret
      exact ⟨ret_int (by rw [← HE.out, R.out]), below_drewN B7.out _⟩
    have hn := fdt_no hf
    have df : decide (0 ≤ fdT (isT id) (l.take k)) = false := decide_eq_false hf
    generalize fdT (isT id) (l.take k) = z at F hf df
    clear hf
    by_cases h1 : r < 0
    · have R := Lib.hid (badT_ref (st := st) (ro := ro) (ca := ca) (x := (id, r, c, f, .slice B cl.length m, cl)) hv hn (fun h => absurd (show 0 ≤ r from h.1.1) (by omega)))
      clear hv hn
      go_enter Tryz.func98, Tryz.ntmps98
      go_wp2_with fail
      refine (V.out _).mono ?_
      rintro e w' ⟨rfl, rfl⟩
      go_wp2_with fail
      go_quiet ((go_at_call 129; with_reducible exact Calls.quiet_of_same ((F.out _ (P.out _)).mono fun _ _ ⟨a, b⟩ => ⟨a, b.symm⟩)))
      go_wp2_with fail
      go_ret
      exact ⟨ret_int (by rw [← HE.out, R.out]), below_drewN B7.out _⟩
    have d1 : decide (r < 0) = false := decide_eq_false h1
    by_cases h2 : ro ≤ r
    · have R := Lib.hid (badT_ref (st := st) (ro := ro) (ca := ca) (x := (id, r, c, f, .slice B cl.length m, cl)) hv hn (fun h => absurd (show r < ro from h.1.2) (by omega)))
      clear hv hn
      go_enter Tryz.func98, Tryz.ntmps98
      go_wp2_with fail
      refine (V.out _).mono ?_
      rintro e w' ⟨rfl, rfl⟩
      go_wp2_with fail
      go_quiet ((go_at_call 129; with_reducible exact Calls.quiet_of_same ((F.out _ (P.out _)).mono fun _ _ ⟨a, b⟩ => ⟨a, b.symm⟩)))
      go_wp2_with fail
      go_ret
      exact ⟨ret_int (by rw [← HE.out, R.out]), below_drewN B7.out _⟩
    have d2 : decide (ro ≤ r) = false := decide_eq_false h2
    by_cases h3 : c < 0
    · have R := Lib.hid (badT_ref (st := st) (ro := ro) (ca := ca) (x := (id, r, c, f, .slice B cl.length m, cl)) hv hn (fun h => absurd (show 0 ≤ c from h.2.1) (by omega)))
      clear hv hn
      go_enter Tryz.func98, Tryz.ntmps98
      go_wp2_with fail
      refine (V.out _).mono ?_
      rintro e w' ⟨rfl, rfl⟩
      go_wp2_with fail
      go_quiet ((go_at_call 129; with_reducible exact Calls.quiet_of_same ((F.out _ (P.out _)).mono fun _ _ ⟨a, b⟩ => ⟨a, b.symm⟩)))
      go_wp2_with fail
      go_ret
      exact ⟨ret_int (by rw [← HE.out, R.out]), below_drewN B7.out _⟩
    have d3 : decide (c < 0) = false := decide_eq_false h3
    by_cases h4 : ca ≤ c
    · have R := Lib.hid (badT_ref (st := st) (ro := ro) (ca := ca) (x := (id, r, c, f, .slice B cl.length m, cl)) hv hn (fun h => absurd (show c < ca from h.2.2) (by omega)))
      clear hv hn
      go_enter Tryz.func98, Tryz.ntmps98
      go_wp2_with fail
      refine (V.out _).mono ?_
      rintro e w' ⟨rfl, rfl⟩
      go_wp2_with fail
      go_quiet ((go_at_call 129; with_reducible exact Calls.quiet_of_same ((F.out _ (P.out _)).mono fun _ _ ⟨a, b⟩ => ⟨a, b.symm⟩)))
      go_wp2_with fail
      go_ret
      exact ⟨ret_int (by rw [← HE.out, R.out]), below_drewN B7.out _⟩
    have d4 : decide (ca ≤ c) = false := decide_eq_false h4
    have R := Lib.hid (badT_calls (st := st) (ro := ro) (ca := ca) (x := (id, r, c, f, .slice B cl.length m, cl)) hv hn (show rkT ro ca r c from ⟨⟨by omega, by omega⟩, by omega, by omega⟩))
    clear hv hn h1 h2 h3 h4
    go_enter Tryz.func98, Tryz.ntmps98
    go_wp2_with fail
    refine (V.out _).mono ?_
    rintro e w' ⟨rfl, rfl⟩
    go_wp2_with fail
    go_quiet ((go_at_call 129; with_reducible exact Calls.quiet_of_same ((F.out _ (P.out _)).mono fun _ _ ⟨a, b⟩ => ⟨a, b.symm⟩)))
    go_wp2_with fail
    have B8 : Hid (Below w.heap.size w (w7.drewN nq)) := below_drewN B7.out _
    refine (RC.out _ (L7.out.below (below_drewN (Below.refl _ _) _))).mono ?_
    rintro e w9 ⟨rfl, b9⟩
    have B9 : Hid (Below w.heap.size w w9) := B8.out.trans (b9.mono B8.out.size)
    clear b9 B8
    go_wp2_with fail
    go_ret
    exact ⟨ret_int (by rw [← HE.out, R.out]), B9.out⟩
set_option maxRecDepth 100000 in
set_option maxHeartbeats 8000000 in
theorem rtck_any (v : Value) (l : List Tp) (hl : l.length ≤ 1099511627776) (st ro ca : Int) (w : World) (h : LstTp w v l) : Calls Tryz.prog 65 #[v, .int .i64 st, .int .i64 ro, .int .i64 ca] w fun e w' => e = .returned (.tuple #[.int .i64 ((chkT st ro ca l).1), .int .i64 ((chkT st ro ca l).2)]) ∧ Below w.heap.size w w' := by
  have H := Lib.hid h
  obtain ⟨⟨A, n, rfl, -, -, -⟩, -⟩ := h
  by_cases hm : 256 < l.length
  · have R := Lib.hid (chkT_many (st := st) (ro := ro) (ca := ca) hm)
    have g : (256 : Int) < (l.length : Int) := by omega
    generalize chkT st ro ca l = q at R ⊢
    clear hm
    go_enter Tryz.func65, Tryz.ntmps65
    go_wp2_with fail
    go_ret2
    exact ⟨ret_chk (by rw [R.out]) (by rw [R.out]), Below.refl _ _⟩
  have g : decide ((256 : Int) < (l.length : Int)) = false := by rw [decide_eq_false_iff_not]; omega
  have ST := Lib.hid (chkT_start (st := st) (ro := ro) (ca := ca) (l := l) (by omega))
  obtain ⟨q, hq⟩ : ∃ q, chkT st ro ca l = q := ⟨_, rfl⟩
  rw [hq]
  rw [hq] at ST
  clear hm hq
  go_enter Tryz.func65, Tryz.ntmps65
  go_wp2_with fail
  go_loopw [10] (fun i wr => ∃ k : Nat, i = .int .i64 k ∧ k ≤ l.length ∧ Hid (q = fbF (badT st ro ca) idT ((l.take k).map idT) k (l.drop k)) ∧ Hid (Below w.heap.size w wr)) (fun i _ => l.length - (intOf i).toNat)
  case atStart => exact ⟨0, rfl, Nat.zero_le _, ST, Lib.hid (Below.refl _ _)⟩
  case round =>
    clear g ST
    obtain ⟨k, rfl, hk, hz, HB⟩ := hrel
    by_cases hlt : k < l.length
    · obtain ⟨x, hx⟩ := at_lt hlt
      have gk : (k : Int) < (l.length : Int) := by omega
      have C := Lib.hid (rone_any _ l hl k x hx st ro ca wr (H.out.below HB.out))
      by_cases he : badT st ro ca ((l.take k).map idT) x = 0
      · have N := Lib.hid (fb_next hz.out hx he)
        rw [he] at C
        clear hx hz he
        go_wp2_with fail
        refine C.out.mono ?_
        rintro e w8 ⟨rfl, b8⟩
        have B8 : Hid (Below w.heap.size w w8) := HB.out.trans (b8.mono HB.out.size)
        clear b8 C HB
        go_wp2_with fail
        go_roundw
        case rel => exact ⟨k + 1, by go_num, by omega, N, B8⟩
        case measure => simp [intOf]; omega
      · have R := Lib.hid (fb_stop hz.out hx rfl he)
        have ne := bne_true he
        generalize badT st ro ca ((l.take k).map idT) x = y at C R ne
        clear hx hz he
        go_wp2_with fail
        refine C.out.mono ?_
        rintro e w8 ⟨rfl, b8⟩
        have B8 : Hid (Below w.heap.size w w8) := HB.out.trans (b8.mono HB.out.size)
        clear b8 C HB
        go_wp2_with fail
        go_ret2
        exact ⟨ret_chk (by rw [R.out]) (by rw [R.out]), B8.out⟩
    · have R := Lib.hid (fb_done hz.out (by omega))
      have d : decide (k < l.length) = false := by rw [decide_eq_false_iff_not]; exact hlt
      clear hz hlt
      go_wp2_with fail
      go_ret2
      exact ⟨ret_chk (by rw [R.out]) (by rw [R.out]), HB.out⟩
end Go.Proofs.YtkhalnjgbdpfhaaGreat.S17
