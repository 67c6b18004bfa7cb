/-
  Plain facts about calendars and their exceptions: the first bad one, the reason of a day, the active days of a range, the next and the previous active day: no program. Condition: none beyond each theorem's own hypotheses. Slices of calendars and of exceptions in memory: their cells, one put into a box of its own; '==' of two places. Condition: none beyond each theorem's own hypotheses. A map from places (a calendar and a day) to bools that a call makes: which places it holds; what a look-up answers, what a store leaves. Condition: the entries are fewer than 2^40, the numbers are of 64 bits. date.Valid and date.Weekday, and the reference's: what each call answers; it leaves the world as it was. Condition: none beyond lengths of 63 bits. The code's placeOf, find and exceptionsOf: what each call answers; nothing that existed before the call has changed behind it. Condition: none beyond lengths of 63 bits. The code's checkCalendar, Check, checkException, CheckExceptions: what each call answers; nothing that existed before the call has changed behind it. Condition: identifiers of at most 2^20 bytes, numbers of 64 bits. The code's checkException, CheckExceptions: what each call answers; nothing that existed before the call has changed behind it. Condition: numbers of 64 bits. The code's contains, Reason and Active: what each call answers; nothing that existed before the call has changed behind it. Condition: none beyond lengths of 63 bits. The reference's Reason and Active: what each call answers; it leaves the world as it was. Condition: none beyond lengths of 63 bits. The reference's Check and CheckExceptions: what each call answers; it only draws. Condition: identifiers of at most 2^20 bytes. The reference's CheckExceptions: what the call answers; it only draws. Condition: none beyond lengths of 63 bits. A calendar, an exception among the arguments. Condition: none beyond each theorem's own hypotheses.
-/
import Derived.Test.YtkhalnjgbdpfhaaGreatShP
import Derived.Test.YtkhalnjgbdpfhaaGreatShA
import Derived.Test.YtkhalnjgbdpfhaaGreatMap
import Derived.Test.YtkhalnjgbdpfhaaGreatShV
import Derived.Lib.QuietBelow
import Derived.DeepKeys4
import Derived.Deep.Strs
import Derived.Lib.SmallJoins
namespace Go.Proofs.YtkhalnjgbdpfhaaGreat.S14
set_option maxRecDepth 100000
open Go

/-- A calendar: its identifier, its week, its first and its last day. -/
abbrev Cl := List UInt8 × (Nat → Bool) × Int × Int
/-- An exception: the calendar, the day, whether it adds the day. -/
abbrev Ex := Int × Int × Bool
/-- A day. -/
def dayP (d : Int) : Prop := 0 ≤ d ∧ d ≤ 36524
instance (d : Int) : Decidable (dayP d) := by unfold dayP; infer_instance

/-- The first and the last day are days, in order. -/
def okR (f t : Int) : Prop := dayP f ∧ dayP t ∧ f ≤ t
instance (f t : Int) : Decidable (okR f t) := by unfold okR; infer_instance
/-- The error of one calendar behind calendars with these identifiers. -/
def badC (seen : List (List UInt8)) (x : Cl) : Int := if validB x.1 = false then 12 else if x.1 ∈ seen then 6 else if okR x.2.2.1 x.2.2.2 then 0 else 11
theorem badC_name {seen : List (List UInt8)} {x : Cl} (h : validB x.1 = false) : badC seen x = 12 := by unfold badC; rw [if_pos h]
theorem badC_twice {seen : List (List UInt8)} {x : Cl} (h : validB x.1 = true) (h2 : x.1 ∈ seen) : badC seen x = 6 := by unfold badC; rw [if_neg (by rw [h]; simp), if_pos h2]
theorem badC_date {seen : List (List UInt8)} {x : Cl} (h : validB x.1 = true) (h2 : x.1 ∉ seen) (h3 : ¬ okR x.2.2.1 x.2.2.2) : badC seen x = 11 := by unfold badC; rw [if_neg (by rw [h]; simp), if_neg h2, if_neg h3]
theorem badC_none {seen : List (List UInt8)} {x : Cl} (h : validB x.1 = true) (h2 : x.1 ∉ seen) (h3 : okR x.2.2.1 x.2.2.2) : badC seen x = 0 := by unfold badC; rw [if_neg (by rw [h]; simp), if_neg h2, if_pos h3]
/-- The identifier. -/
def idC (x : Cl) : List UInt8 := x.1
/-- What Check answers. -/
def chkC (l : List Cl) : Int × Int := if 64 < l.length then (0, 5) else fbF badC idC [] 0 l
theorem chkC_many {l : List Cl} (h : 64 < l.length) : chkC l = (0, 5) := by unfold chkC; rw [if_pos h]
theorem chkC_start {l : List Cl} (h : l.length ≤ 64) : chkC l = fbF badC idC ((l.take 0).map idC) 0 (l.drop 0) := by unfold chkC; rw [if_neg (by omega)]; rfl
/-- The error of one exception behind exceptions with these places. -/
def badX (n : Int) (seen : List (Int × Int)) (e : Ex) : Int := if e.1 < 0 ∨ n ≤ e.1 then 9 else if ¬ dayP e.2.1 then 11 else if (e.1, e.2.1) ∈ seen then 6 else 0
theorem badX_ref {n : Int} {seen : List (Int × Int)} {e : Ex} (h : e.1 < 0 ∨ n ≤ e.1) : badX n seen e = 9 := by unfold badX; rw [if_pos h]
theorem badX_date {n : Int} {seen : List (Int × Int)} {e : Ex} (h : ¬ (e.1 < 0 ∨ n ≤ e.1)) (h2 : ¬ dayP e.2.1) : badX n seen e = 11 := by unfold badX; rw [if_neg h, if_pos h2]
theorem badX_twice {n : Int} {seen : List (Int × Int)} {e : Ex} (h : ¬ (e.1 < 0 ∨ n ≤ e.1)) (h2 : dayP e.2.1) (h3 : (e.1, e.2.1) ∈ seen) : badX n seen e = 6 := by unfold badX; rw [if_neg h, if_neg (fun k => k h2), if_pos h3]
theorem badX_none {n : Int} {seen : List (Int × Int)} {e : Ex} (h : ¬ (e.1 < 0 ∨ n ≤ e.1)) (h2 : dayP e.2.1) (h3 : (e.1, e.2.1) ∉ seen) : badX n seen e = 0 := by unfold badX; rw [if_neg h, if_neg (fun k => k h2), if_neg h3]
/-- The place. -/
def plX (e : Ex) : Int × Int := (e.1, e.2.1)
/-- What CheckExceptions answers. -/
def chkX (n : Int) (l : List Ex) : Int × Int := if 256 < l.length then (0, 5) else fbF (badX n) plX [] 0 l
theorem chkX_many {n : Int} {l : List Ex} (h : 256 < l.length) : chkX n l = (0, 5) := by unfold chkX; rw [if_pos h]
theorem chkX_start {n : Int} {l : List Ex} (h : l.length ≤ 256) : chkX n l = fbF (badX n) plX ((l.take 0).map plX) 0 (l.drop 0) := by unfold chkX; rw [if_neg (by omega)]; rfl

/-! ### The days -/
section
variable (act : Int → Bool)
end
section
variable {act : Int → Bool}
end

end Go.Proofs.YtkhalnjgbdpfhaaGreat.S14
namespace Go.Proofs.YtkhalnjgbdpfhaaGreat.S14
set_option maxRecDepth 100000
open Go.RowKit Go.Sort

/-- A calendar as cells. -/
def ce (x : Cl) : List Value := [.string (str x.1), .bool (x.2.1 0), .bool (x.2.1 1), .bool (x.2.1 2), .bool (x.2.1 3), .bool (x.2.1 4), .bool (x.2.1 5), .bool (x.2.1 6), .int .i64 x.2.2.1, .int .i64 x.2.2.2]
theorem ce_len (x : Cl) : (ce x).length = 10 := rfl
abbrev LstC := @LstG Cl ce
/-- An exception as cells. -/
def xe (x : Ex) : List Value := [.int .i64 x.1, .int .i64 x.2.1, .bool x.2.2]
theorem xe_len (x : Ex) : (xe x).length = 3 := rfl
abbrev LstX := @LstG Ex xe
/-- The three cells of an exception. -/
theorem three_at {w : World} {A : Option Addr} {n c : Nat} {l : List Ex} (h : LstX w (.slice A n c) l) {i : Nat} {k d : Int} {f : Bool} (hs : l[i]? = some (k, d, f)) :
    ∃ b o, A = some ⟨b, o, none⟩ ∧ b < w.heap.size ∧ w.cell? ⟨b, o + i * 3, none⟩ = some (.int .i64 k) ∧ w.cell? ⟨b, o + i * 3 + 1, none⟩ = some (.int .i64 d) ∧ w.cell? ⟨b, o + i * 3 + 2, none⟩ = some (.bool f) := by
  obtain ⟨A', c', hv, _, _, hx⟩ := h
  cases hv
  have hi := (List.getElem?_eq_some_iff.1 hs).1
  obtain ⟨b, o, rfl, hb, hcell⟩ := hx (by omega)
  refine ⟨b, o, rfl, hb, hcell (i * 3) _ (by rw [← Nat.add_zero (i * 3), fl_at xe_len hs 0 (by omega)]; rfl), (hcell (i * 3 + 1) _ (by rw [fl_at xe_len hs 1 (by omega)]; rfl) : _), (hcell (i * 3 + 2) _ (by rw [fl_at xe_len hs 2 (by omega)]; rfl) : _)⟩
/-- The cells of a calendar. -/
theorem ten_at {w : World} {A : Option Addr} {n c : Nat} {l : List Cl} (h : LstC w (.slice A n c) l) {i : Nat} {id : List UInt8} {k : Nat → Bool} {f t : Int} (hs : l[i]? = some (id, k, f, t)) {s : ByteArray} (hst : str id = s) :
    ∃ b o, A = some ⟨b, o, none⟩ ∧ b < w.heap.size ∧ w.cell? ⟨b, o + i * 10, none⟩ = some (.string s) ∧ (∀ m, m < 7 → w.cell? ⟨b, o + i * 10 + 1 + m, none⟩ = some (.bool (k m))) ∧ w.cell? ⟨b, o + i * 10 + 8, none⟩ = some (.int .i64 f) ∧ w.cell? ⟨b, o + i * 10 + 9, none⟩ = some (.int .i64 t) := by
  subst hst
  obtain ⟨A', c', hv, _, _, hx⟩ := h
  cases hv
  have hi := (List.getElem?_eq_some_iff.1 hs).1
  obtain ⟨b, o, rfl, hb, hcell⟩ := hx (by omega)
  refine ⟨b, o, rfl, hb, hcell (i * 10) _ (by rw [← Nat.add_zero (i * 10), fl_at ce_len hs 0 (by omega)]; rfl), fun m hm => ?_, (hcell (i * 10 + 8) _ (by rw [fl_at ce_len hs 8 (by omega)]; rfl) : _), (hcell (i * 10 + 9) _ (by rw [fl_at ce_len hs 9 (by omega)]; rfl) : _)⟩
  have e : o + i * 10 + 1 + m = o + (i * 10 + (1 + m)) := by omega
  rw [e]
  refine hcell _ _ ?_
  rw [fl_at ce_len hs (1 + m) (by omega)]
  match m, hm with
  | 0, _ => rfl
  | 1, _ => rfl
  | 2, _ => rfl
  | 3, _ => rfl
  | 4, _ => rfl
  | 5, _ => rfl
  | 6, _ => rfl
/-- A calendar in a box. -/
theorem box_cl {w w7 : World} {s : ByteArray} {k : Nat → Bool} {f t : Int} (h : w.alloc (.cells #[.string s, .bool (k 0), .bool (k 1), .bool (k 2), .bool (k 3), .bool (k 4), .bool (k 5), .bool (k 6), .int .i64 f, .int .i64 t] 67 (0, 0)) = w7) :
    Below w.heap.size w w7 ∧ w7.cell? ⟨w.heap.size, 0, none⟩ = some (.string s) ∧ w7.cell? ⟨w.heap.size, 1, none⟩ = some (.bool (k 0)) ∧ w7.cell? ⟨w.heap.size, 2, none⟩ = some (.bool (k 1)) ∧ w7.cell? ⟨w.heap.size, 3, none⟩ = some (.bool (k 2)) ∧ w7.cell? ⟨w.heap.size, 4, none⟩ = some (.bool (k 3)) ∧ w7.cell? ⟨w.heap.size, 5, none⟩ = some (.bool (k 4)) ∧ w7.cell? ⟨w.heap.size, 6, none⟩ = some (.bool (k 5)) ∧ w7.cell? ⟨w.heap.size, 7, none⟩ = some (.bool (k 6)) ∧
      w7.cell? ⟨w.heap.size, 8, none⟩ = some (.int .i64 f) ∧ w7.cell? ⟨w.heap.size, 9, none⟩ = some (.int .i64 t) ∧ w.heap.size < w7.heap.size := by
  subst h
  have c7 := heap_alloc_new w (.cells #[.string s, .bool (k 0), .bool (k 1), .bool (k 2), .bool (k 3), .bool (k 4), .bool (k 5), .bool (k 6), .int .i64 f, .int .i64 t] 67 (0, 0))
  exact ⟨(Below.refl _ _).alloc (Nat.le_refl _) _, by rw [cell_of_row _ _ 0 _ _ _ c7]; rfl, by rw [cell_of_row _ _ 1 _ _ _ c7]; rfl, by rw [cell_of_row _ _ 2 _ _ _ c7]; rfl, by rw [cell_of_row _ _ 3 _ _ _ c7]; rfl, by rw [cell_of_row _ _ 4 _ _ _ c7]; rfl, by rw [cell_of_row _ _ 5 _ _ _ c7]; rfl, by rw [cell_of_row _ _ 6 _ _ _ c7]; rfl, by rw [cell_of_row _ _ 7 _ _ _ c7]; rfl, by rw [cell_of_row _ _ 8 _ _ _ c7]; rfl, by rw [cell_of_row _ _ 9 _ _ _ c7]; rfl, by simp⟩
/-- An exception in a box. -/
theorem box_ex {w w7 : World} {k d : Int} {f : Bool} (h : w.alloc (.cells #[.int .i64 k, .int .i64 d, .bool f] 70 (0, 0)) = w7) :
    Below w.heap.size w w7 ∧ w7.cell? ⟨w.heap.size, 0, none⟩ = some (.int .i64 k) ∧ w7.cell? ⟨w.heap.size, 1, none⟩ = some (.int .i64 d) ∧ w7.cell? ⟨w.heap.size, 2, none⟩ = some (.bool f) ∧ w.heap.size < w7.heap.size := by
  subst h
  have c7 := heap_alloc_new w (.cells #[.int .i64 k, .int .i64 d, .bool f] 70 (0, 0))
  exact ⟨(Below.refl _ _).alloc (Nat.le_refl _) _, by rw [cell_of_row _ _ 0 _ _ _ c7]; rfl, by rw [cell_of_row _ _ 1 _ _ _ c7]; rfl, by rw [cell_of_row _ _ 2 _ _ _ c7]; rfl, by simp⟩
/-- A place in a box. -/
theorem box_pl {w w7 : World} {k d : Int} (h : w.alloc (.cells #[.int .i64 k, .int .i64 d] 126 (0, 0)) = w7) :
    Below w.heap.size w w7 ∧ w7.cell? ⟨w.heap.size, 0, none⟩ = some (.int .i64 k) ∧ w7.cell? ⟨w.heap.size, 1, none⟩ = some (.int .i64 d) ∧ w.heap.size < w7.heap.size := by
  subst h
  have c7 := heap_alloc_new w (.cells #[.int .i64 k, .int .i64 d] 126 (0, 0))
  exact ⟨(Below.refl _ _).alloc (Nat.le_refl _) _, by rw [cell_of_row _ _ 0 _ _ _ c7]; rfl, by rw [cell_of_row _ _ 1 _ _ _ c7]; rfl, by simp⟩
theorem ret_chk {a b c d : Int} (h : a = b) (k : c = d) : Ending.returned (.tuple #[.int .i64 a, .int .i64 c]) = .returned (.tuple #[.int .i64 b, .int .i64 d]) := by rw [h, k]
theorem str_ne {id : List UInt8} {x : List UInt8} {s t : ByteArray} (hs : str x = s) (ht : str id = t) (h : x ≠ id) : s ≠ t := by
  intro e
  apply h
  have e2 : str x = str id := by rw [hs, ht, e]
  have := congrArg (fun b : ByteArray => b.data.toList) e2
  simpa [str] using this
end Go.Proofs.YtkhalnjgbdpfhaaGreat.S14
namespace Go.Proofs.YtkhalnjgbdpfhaaGreat.S14
set_option maxRecDepth 100000
open Go.RowKit Go.Maps Go.WideMaps

theorem pl_laid : laidOutB Tryz.prog = true := by kernel_rfl
theorem pl_row : (126 : TypeId) < Tryz.prog.types.size := of_decide_eq_true (by kernel_rfl)
theorem pl_wide : (match Tryz.prog.underlying 126 with | some (.array _ _) | some (.struct _) => true | _ => false) = true := by kernel_rfl
theorem pl_cells : Tryz.prog.cellsOf 126 = 2 := by kernel_rfl
theorem int_cells : Tryz.prog.cellsOf 3 = 1 := by kernel_rfl
theorem pl_key : Tryz.prog.keyType 126 = true := by kernel_rfl
theorem pl_law : Keyed Tryz.prog 126 := Keyed.of_law (deep_law_laid pl_laid (m := 2) (by omega) pl_row (by kernel_rfl) pl_wide)
theorem pl_types : ∃ m, Tryz.prog.types.size = m + 1 := by
  cases h : Tryz.prog.types.size with
  | zero => exact absurd (h ▸ pl_row : (_ : Nat) < 0) (Nat.not_lt_zero _)
  | succ m => exact ⟨m, rfl⟩
/-- Both numbers are of 64 bits. -/
def Pl64 (p : Int × Int) : Prop := (-9223372036854775808 ≤ p.1 ∧ p.1 ≤ 9223372036854775807) ∧ -9223372036854775808 ≤ p.2 ∧ p.2 ≤ 9223372036854775807
/-- A place as a key. -/
def kp (p : Int × Int) : List UInt8 := keyBytes [.int .i64 p.1, .int .i64 p.2]
theorem key_pl (p : Int × Int) (h : Pl64 p) : keyOf Tryz.prog 126 (.agg #[.int .i64 p.1, .int .i64 p.2]) = some (.string (kp p)) := by
  have w1 := WalkArith.wf_i64 h.1
  have w2 := WalkArith.wf_i64 h.2
  have hu := Tryz.underlying126
  have hi := Tryz.underlying3
  obtain ⟨m, hm⟩ := pl_types
  unfold keyOf
  simp only [hu]
  rw [if_pos (by simp [pl_key, Value.formed, hu, pl_cells]), hm]
  unfold Program.keyLits
  simp only [hu, Value.cells]
  rw [if_pos ⟨by rw [pl_cells]; rfl, by simp⟩]
  simp [int_cells, Program.keyLits, hi, w1, w2, kp]
theorem kp_inj {p q : Int × Int} (hp : Pl64 p) (hq : Pl64 q) (h : kp p = kp q) : p = q := by
  have h1 := key_pl p hp
  have h2 := key_pl q hq
  rw [← h] at h2
  have := pl_law.inj h1 h2
  simp at this
  exact Prod.ext this.1 this.2
/-- Block b is a map from these places to true. -/
def MapP (w : World) (b : Nat) (ls : List (Int × Int)) : Prop := (∀ p ∈ ls, Pl64 p) ∧ ∃ D : Dm, w.ownsMap Tryz.prog 126 (plainElem Tryz.prog 4) b ls.length D ∧ IsMap D ∧ (∀ p, Pl64 p → has D (.string (kp p)) = decide (p ∈ ls)) ∧ ∀ p z, p ∈ ls → D.atKey (.string (kp p)) z = .lit (.bool true)
theorem MapP.made (w : World) : MapP (w.alloc (.map #[] 0)) w.heap.size [] := ⟨fun p hp => absurd hp (by simp), .map [], World.ownsMap_made _ _ _ _, isMap_empty, fun x _ => by simp [has_eq], fun x z h => by simp at h⟩
theorem MapP.below {w w' : World} {b : Nat} {ls : List (Int × Int)} (h : MapP w b ls) (hb : Below w.heap.size w w') : MapP w' b ls := by
  obtain ⟨h0, D, h1, h2⟩ := h
  exact ⟨h0, D, h1.kept (below_but hb) (by simp), h2⟩
theorem MapP.look {w : World} {b : Nat} {ls : List (Int × Int)} (h : MapP w b ls) (p : Int × Int) (hp : Pl64 p) :
    (Instr.lookup 123 (.map (some b)) (.agg #[.int .i64 p.1, .int .i64 p.2]) false).run Tryz.prog w = .ok (.bool (decide (p ∈ ls))) w := by
  obtain ⟨h0, D, h1, h2, h3, h4⟩ := h
  obtain ⟨v, ps, hrun, hv⟩ := h1.lookup pl_law Tryz.underlying123 (zero_bool w) (plainElem_bool Tryz.underlying4 false) (key_pl p hp)
  obtain ⟨c, rfl, hc⟩ := plain_bool_inv hv
  have hc := congrArg Prod.fst hc
  rw [hrun]
  have : c = decide (p ∈ ls) := by
    by_cases hm : p ∈ ls
    · rw [h4 _ _ hm] at hc
      simp at hc
      simp [hm, ← hc]
    · rw [atKey_of_not_has (by rw [h3 p hp]; exact decide_eq_false hm)] at hc
      simp at hc
      simp [hm, ← hc]
  rw [this]
/-- Storing true at a place. -/
theorem put_pl (w : World) {ops : Array Oper} {rest : List Oper} {o : Oper} {a : Act} {Q : Exit → Act → World → Prop} (hgd : o.guard = none) (m x v : Operand) (ho : o.op = Op.mapUpdate 123 m x v)
    (b : Nat) (ls : List (Int × Int)) (hm : a.eval m = .map (some b)) (hown : MapP w b ls) (p : Int × Int) (hp : Pl64 p) (hx : a.eval x = .agg #[.int .i64 p.1, .int .i64 p.2]) (hv : a.eval v = .bool true)
    (hl : ls.length < 1099511627776) (h : ∀ w', MapP w' b (ls ++ [p]) → w.grownBy w' (some b) → wpList Tryz.prog ops Q rest (a.put o.dst undef) w') : wpList Tryz.prog ops Q (o :: rest) a w := by
  obtain ⟨h0, D, h1, h2, h3, h4⟩ := hown
  refine wpList_mapUpdate_own w hgd m x v 123 ho 126 4 pl_law Tryz.underlying123 _ b ls.length D hm h1 (by unfold maxLen; omega) _ _ _ hx hv (key_pl p hp) _ [] (plainElem_bool Tryz.underlying4 true) ?_
  intro w' g1 g2
  refine h w' ⟨fun q hq => ?_, _, by rw [List.length_append]; exact g1, h2.put _ _, fun q hq => ?_, fun q z hi => ?_⟩ g2
  · rcases List.mem_append.1 hq with hq | hq
    · exact h0 q hq
    · rw [List.mem_singleton.1 hq]; exact hp
  · by_cases hx : q = p
    · subst hx
      rw [has_put_same h2 (by simp [WideAt.IsKeyLit])]
      simp
    · rw [has_put_other (fun e => hx (kp_inj hq hp (by simpa using e))), h3 q hq]
      simp [hx]
  · by_cases hx : q = p
    · subst hx
      rw [atKey_put_same h2 (by simp [WideAt.IsKeyLit])]
    · have hq : q ∈ ls := by simpa [hx] using hi
      rw [atKey_put_other (fun e => hx (kp_inj (h0 q hq) hp (by simpa using e)))]
      exact h4 q z hq
end Go.Proofs.YtkhalnjgbdpfhaaGreat.S14
namespace Go.Proofs.YtkhalnjgbdpfhaaGreat.S14
set_option maxRecDepth 100000
open Go.RowKit

theorem dvalid_any (n : Int) (w : World) : Calls Tryz.prog 108 #[.int .i64 n] w fun e w' => e = .returned (.bool (decide (dayP n))) ∧ w = w' := by
  by_cases h0 : 0 ≤ n
  · by_cases h1 : n ≤ 36524
    · have R := Lib.hid (decide_eq_true (p := dayP n) ⟨h0, h1⟩)
      go_enter Tryz.func108, Tryz.ntmps108
      go_wp2_with fail
      go_ret
      exact ⟨ret_bool R.out.symm, rfl⟩
    · have R := Lib.hid (decide_eq_false (p := dayP n) fun h => h1 h.2)
      have d1 : decide (n ≤ 36524) = false := decide_eq_false h1
      clear h1
      go_enter Tryz.func108, Tryz.ntmps108
      go_wp2_with fail
      go_ret
      exact ⟨ret_bool R.out.symm, rfl⟩
  · have R := Lib.hid (decide_eq_false (p := dayP n) fun h => h0 h.1)
    have d0 : decide (0 ≤ n) = false := decide_eq_false h0
    clear h0
    go_enter Tryz.func108, Tryz.ntmps108
    go_wp2_with fail
    go_ret
    exact ⟨ret_bool R.out.symm, rfl⟩
theorem rdvalid_any (n : Int) (w : World) : Calls Tryz.prog 97 #[.int .i64 n] w fun e w' => e = .returned (.bool (decide (dayP n))) ∧ w = w' := by
  by_cases h0 : 0 ≤ n
  · by_cases h1 : n ≤ 36524
    · have R := Lib.hid (decide_eq_true (p := dayP n) ⟨h0, h1⟩)
      go_enter Tryz.func97, Tryz.ntmps97
      go_wp2_with fail
      go_ret
      exact ⟨ret_bool R.out.symm, rfl⟩
    · have R := Lib.hid (decide_eq_false (p := dayP n) fun h => h1 h.2)
      have d1 : decide (n ≤ 36524) = false := decide_eq_false h1
      clear h1
      go_enter Tryz.func97, Tryz.ntmps97
      go_wp2_with fail
      go_ret
      exact ⟨ret_bool R.out.symm, rfl⟩
  · have R := Lib.hid (decide_eq_false (p := dayP n) fun h => h0 h.1)
    have d0 : decide (0 ≤ n) = false := decide_eq_false h0
    clear h0
    go_enter Tryz.func97, Tryz.ntmps97
    go_wp2_with fail
    go_ret
    exact ⟨ret_bool R.out.symm, rfl⟩
end Go.Proofs.YtkhalnjgbdpfhaaGreat.S14
namespace Go.Proofs.YtkhalnjgbdpfhaaGreat.S14
set_option maxRecDepth 100000
open Go.RowKit

set_option maxRecDepth 100000 in
theorem place_any (k d : Int) (f : Bool) (w : World) : Calls Tryz.prog 77 #[.agg #[.int .i64 k, .int .i64 d, .bool f]] w fun e w' => e = .returned (.agg #[.int .i64 k, .int .i64 d]) ∧ Below w.heap.size w w' := by
  obtain ⟨w1, h1⟩ : ∃ W, w.alloc (.cells #[.int .i64 k, .int .i64 d, .bool f] 70 (0, 0)) = W := ⟨_, rfl⟩
  obtain ⟨b1, p0, p1, p2, z1⟩ := box_ex h1
  obtain ⟨w2, h2⟩ : ∃ W, w1.alloc (.cells #[.int .i64 0, .int .i64 0] 126 (0, 0)) = W := ⟨_, rfl⟩
  obtain ⟨b2, q0, q1, z2⟩ := box_pl h2
  have B2 := Lib.hid (b1.trans (b2.mono b1.size))
  have r0 := (b2.cell (p := ⟨w.heap.size, 0, none⟩) z1).trans p0
  have r1 := (b2.cell (p := ⟨w.heap.size, 1, none⟩) z1).trans p1
  have hz : w.heap.size ≤ w1.heap.size := b1.size
  have hw2 : w2.heap[w1.heap.size]? = some (.cells #[.int .i64 0, .int .i64 0] 126 (0, 0)) := by rw [← h2]; exact heap_alloc_new _ _
  have v0 := frozen_of_row _ _ 0 _ _ hw2
  have v1 := frozen_of_row _ _ 1 _ _ hw2
  clear b1 b2 p0 p1 p2 hw2
  go_enter Tryz.func77, Tryz.ntmps77
  go_wp2_with fail
  exact bodyPost_ret (v := .agg #[.int .i64 k, .int .i64 d]) (by simp [results, Tryz.results77, go_sem, q0, q1]) rfl ⟨rfl, (B2.out.setCell (p := ⟨w1.heap.size, 0, none⟩) hz _).setCell (p := ⟨w1.heap.size, 1, none⟩) hz _⟩
end Go.Proofs.YtkhalnjgbdpfhaaGreat.S14
namespace Go.Proofs.YtkhalnjgbdpfhaaGreat.S14
set_option maxRecDepth 100000
open Go.RowKit

set_option maxRecDepth 100000 in
set_option maxHeartbeats 4000000 in
theorem kcal_any (id : List UInt8) (k : Nat → Bool) (f t : Int) (s : ByteArray) (hs : str id = s) (b : Nat) (ls : List (List UInt8)) (w : World) (hm : MapB w b ls) :
    Calls Tryz.prog 75 #[.agg #[.string s, .bool (k 0), .bool (k 1), .bool (k 2), .bool (k 3), .bool (k 4), .bool (k 5), .bool (k 6), .int .i64 f, .int .i64 t], .map (some b)] w fun e w' => e = .returned (.int .i64 (badC ls (id, k, f, t))) ∧ Below w.heap.size w w' := by
  have hid : s.data.toList = id := by rw [← hs]
  obtain ⟨w7, hw7⟩ : ∃ W, w.alloc (.cells #[.string s, .bool (k 0), .bool (k 1), .bool (k 2), .bool (k 3), .bool (k 4), .bool (k 5), .bool (k 6), .int .i64 f, .int .i64 t] 67 (0, 0)) = W := ⟨_, rfl⟩
  obtain ⟨b7, p0, -, -, -, -, -, -, -, p8, p9, -⟩ := box_cl hw7
  have lk := fun hq : s.size ≤ 32 => (hm.below b7).look s id hid (by omega)
  have V := Lib.hid (valid_all_any s w7)
  rw [hid] at V
  have B7 := Lib.hid b7
  clear b7 hm hid
  cases hv : validB id with
  | false =>
    have R := Lib.hid (badC_name (seen := ls) (x := (id, k, f, t)) hv)
    rw [hv] at V
    generalize badC ls (id, k, f, t) = q at R ⊢
    clear hv hs lk
    go_enter Tryz.func75, Tryz.ntmps75
    go_wp2_with fail
    refine V.out.mono ?_
    rintro e w' ⟨rfl, rfl⟩
    go_wp2_with fail
    go_ret
    exact ⟨ret_int R.out.symm, B7.out⟩
  | true =>
    rw [hv] at V
    have lk := lk (valid_small hs hv)
    clear hs
    by_cases hd : id ∈ ls
    · have R := Lib.hid (badC_twice (x := (id, k, f, t)) hv hd)
      rw [decide_eq_true hd] at lk
      generalize badC ls (id, k, f, t) = q at R ⊢
      clear hv hd
      go_enter Tryz.func75, Tryz.ntmps75
      go_wp2_with fail
      refine V.out.mono ?_
      rintro e w' ⟨rfl, rfl⟩
      go_wp2_with fail
      go_ret
      exact ⟨ret_int R.out.symm, B7.out⟩
    · rw [decide_eq_false hd] at lk
      have RF := Lib.hid (fun hf => badC_date (x := (id, k, f, t)) hv hd hf)
      have RN := Lib.hid (fun hf => badC_none (x := (id, k, f, t)) hv hd hf)
      generalize badC ls (id, k, f, t) = q at RF RN ⊢
      simp only at RF RN
      have VF := Lib.hid (fun W => dvalid_any f W)
      have VT := Lib.hid (fun W => dvalid_any t W)
      clear hv hd
      by_cases h1 : dayP f
      case neg =>
        have R := Lib.hid (RF.out fun h => h1 h.1)
        rw [decide_eq_false h1] at VF
        clear RF RN h1 VT
        go_enter Tryz.func75, Tryz.ntmps75
        go_wp2_with fail
        refine V.out.mono ?_
        rintro e w' ⟨rfl, rfl⟩
        go_wp2_with fail
        refine (VF.out _).mono ?_
        rintro e w' ⟨rfl, rfl⟩
        go_wp2_with fail
        go_ret
        exact ⟨ret_int R.out.symm, B7.out⟩
      rw [decide_eq_true h1] at VF
      by_cases h2 : dayP t
      case neg =>
        have R := Lib.hid (RF.out fun h => h2 h.2.1)
        rw [decide_eq_false h2] at VT
        clear RF RN h1 h2
        go_enter Tryz.func75, Tryz.ntmps75
        go_wp2_with fail
        refine V.out.mono ?_
        rintro e w' ⟨rfl, rfl⟩
        go_wp2_with fail
        refine (VF.out _).mono ?_
        rintro e w' ⟨rfl, rfl⟩
        go_wp2_with fail
        refine (VT.out _).mono ?_
        rintro e w' ⟨rfl, rfl⟩
        go_wp2_with fail
        go_ret
        exact ⟨ret_int R.out.symm, B7.out⟩
      rw [decide_eq_true h2] at VT
      by_cases h3 : t < f
      case pos =>
        have R := Lib.hid (RF.out fun h => by have := h.2.2; omega)
        clear RF RN h1 h2
        go_enter Tryz.func75, Tryz.ntmps75
        go_wp2_with fail
        refine V.out.mono ?_
        rintro e w' ⟨rfl, rfl⟩
        go_wp2_with fail
        refine (VF.out _).mono ?_
        rintro e w' ⟨rfl, rfl⟩
        go_wp2_with fail
        refine (VT.out _).mono ?_
        rintro e w' ⟨rfl, rfl⟩
        go_wp2_with fail
        go_ret
        exact ⟨ret_int R.out.symm, B7.out⟩
      have R := Lib.hid (RN.out ⟨h1, h2, by omega⟩)
      have d3 : decide (t < f) = false := decide_eq_false h3
      clear RF RN h1 h2 h3
      go_enter Tryz.func75, Tryz.ntmps75
      go_wp2_with fail
      refine V.out.mono ?_
      rintro e w' ⟨rfl, rfl⟩
      go_wp2_with fail
      refine (VF.out _).mono ?_
      rintro e w' ⟨rfl, rfl⟩
      go_wp2_with fail
      refine (VT.out _).mono ?_
      rintro e w' ⟨rfl, rfl⟩
      go_wp2_with fail
      go_ret
      exact ⟨ret_int R.out.symm, B7.out⟩
theorem badC_valid {seen : List (List UInt8)} {x : Cl} (h : badC seen x = 0) : validB x.1 = true := by
  cases hv : validB x.1 with
  | true => rfl
  | false => rw [badC_name hv] at h; cases h
set_option maxRecDepth 100000 in
set_option maxHeartbeats 4000000 in
theorem kcheck_all (v : Value) (l : List Cl) (hl : l.length ≤ 9223372036854775807) (w : World) (h : LstC w v l) : Calls Tryz.prog 46 #[v] w fun e w' => e = .returned (.tuple #[.int .i64 ((chkC l).1), .int .i64 ((chkC l).2)]) ∧ Below w.heap.size w w' := by
  have H := Lib.hid h
  obtain ⟨A, c, rfl, -, -, -⟩ := h
  by_cases h64 : 64 < l.length
  · have R := Lib.hid (chkC_many h64)
    have g : (64 : Int) < (l.length : Int) := by omega
    generalize chkC l = q at R ⊢
    clear h64
    go_enter Tryz.func46, Tryz.ntmps46
    go_wp2_with fail
    go_ret2
    exact ⟨ret_chk (by rw [R.out]) (by rw [R.out]), Below.refl _ _⟩
  have g : decide ((64 : Int) < (l.length : Int)) = false := by rw [decide_eq_false_iff_not]; omega
  have ST := Lib.hid (chkC_start (l := l) (by omega))
  have h64' : l.length ≤ 64 := by omega
  have hmm := @run_makeMap Tryz.prog
  generalize chkC l = q at ST ⊢
  clear h64
  go_enter Tryz.func46, Tryz.ntmps46
  go_wp2_with fail
  go_loopw [14] (fun i wr => ∃ k : Nat, i = .int .i64 k ∧ k ≤ l.length ∧ Hid (q = fbF badC idC ((l.take k).map idC) k (l.drop k)) ∧ Hid (MapB wr w.heap.size ((l.take k).map idC)) ∧ Hid (Below w.heap.size w wr)) (fun i _ => l.length - (intOf i).toNat)
  case atStart => exact ⟨0, rfl, Nat.zero_le _, ST, Lib.hid (MapB.made w), Lib.hid ((Below.refl _ _).alloc (Nat.le_refl _) _)⟩
  case round =>
    clear g ST hmm
    obtain ⟨k, rfl, hk, hz, HM, HB⟩ := hrel
    by_cases hlt : k < l.length
    · obtain ⟨⟨id, kw, f, t⟩, hx⟩ := at_lt hlt
      obtain ⟨nm, hnm⟩ : ∃ nm, str id = nm := ⟨_, rfl⟩
      obtain ⟨b, o, rfl, hb, r0, mk, r8, r9⟩ := ten_at (H.out.below HB.out) hx hnm
      have k0 : wr.cell? ⟨b, o + k * 10 + 1, none⟩ = some (.bool (kw 0)) := mk 0 (by omega)
      have k1 : wr.cell? ⟨b, o + k * 10 + 2, none⟩ = some (.bool (kw 1)) := mk 1 (by omega)
      have k2 : wr.cell? ⟨b, o + k * 10 + 3, none⟩ = some (.bool (kw 2)) := mk 2 (by omega)
      have k3 : wr.cell? ⟨b, o + k * 10 + 4, none⟩ = some (.bool (kw 3)) := mk 3 (by omega)
      have k4 : wr.cell? ⟨b, o + k * 10 + 5, none⟩ = some (.bool (kw 4)) := mk 4 (by omega)
      have k5 : wr.cell? ⟨b, o + k * 10 + 6, none⟩ = some (.bool (kw 5)) := mk 5 (by omega)
      have k6 : wr.cell? ⟨b, o + k * 10 + 7, none⟩ = some (.bool (kw 6)) := mk 6 (by omega)
      have gk : (k : Int) < (l.length : Int) := by omega
      obtain ⟨w7, hw7⟩ : ∃ W, wr.alloc (.cells #[.string nm, .bool (kw 0), .bool (kw 1), .bool (kw 2), .bool (kw 3), .bool (kw 4), .bool (kw 5), .bool (kw 6), .int .i64 f, .int .i64 t] 67 (0, 0)) = W := ⟨_, rfl⟩
      obtain ⟨b7, p0, p1, p2, p3, p4, p5, p6, p7, p8, p9, s7⟩ := box_cl hw7
      have B7 : Hid (Below w.heap.size w w7) := HB.out.trans (b7.mono HB.out.size)
      have M7 := Lib.hid (HM.out.below b7)
      have C := Lib.hid (kcal_any id kw f t nm hnm w.heap.size ((l.take k).map idC) w7 M7.out)
      by_cases he : badC ((l.take k).map idC) (id, kw, f, t) = 0
      · have N := Lib.hid (fb_next hz.out hx he)
        have T := Lib.hid (key_take (key := idC) hx)
        have hil : Hid (((l.take k).map idC).length ≤ 64) := by show _ ≤ _; rw [List.length_map, List.length_take]; omega
        have hid : Hid (nm.data.toList = id) := by show _ = _; rw [← hnm]
        have hns := valid_small hnm (badC_valid he)
        rw [he] at C
        clear hx hz HB HM b7 hnm hb he mk
        go_wp2_with fail
        refine C.out.mono ?_
        rintro e w8 ⟨rfl, b8⟩
        have q0 := (b8.cell (p := ⟨wr.heap.size, 0, none⟩) s7).trans p0
        have B8 : Hid (Below w.heap.size w w8) := B7.out.trans (b8.mono B7.out.size)
        have M8 := Lib.hid (M7.out.below b8)
        clear b8 p0 p1 p2 p3 p4 p5 p6 p7 p8 p9 B7 M7 C
        go_wp2_with (at_mapUpdate; refine put_bool _ rfl _ _ _ rfl w.heap.size ((l.take k).map idC) rfl M8.out nm id hid.out (by omega) rfl rfl (by have := hil.out; omega) ?_; intro w9 m9 g9)
        have M : Hid (MapB w9 w.heap.size ((l.take (k + 1)).map idC)) := by
          show MapB _ _ _
          rw [T.out]
          exact m9
        have B : Hid (Below w.heap.size w w9) := B8.out.grown g9 B8.out.size (fun j hj => by cases hj; exact Nat.le_refl _)
        clear m9 g9 M8 B8
        go_wp2_with fail
        go_roundw
        case rel => exact ⟨k + 1, by go_num, by omega, N, M, B⟩
        case measure => simp [intOf]; omega
      · have R := Lib.hid (fb_stop hz.out hx rfl he)
        have ne := bne_true he
        generalize badC ((l.take k).map idC) (id, kw, f, t) = y at C R ne
        clear hx hz HB HM b7 hnm hb he mk
        go_wp2_with fail
        refine C.out.mono ?_
        rintro e w8 ⟨rfl, b8⟩
        have B8 : Hid (Below w.heap.size w w8) := B7.out.trans (b8.mono B7.out.size)
        clear b8 B7 C p0 p1 p2 p3 p4 p5 p6 p7 p8 p9
        go_wp2_with fail
        go_ret2
        exact ⟨ret_chk (by rw [R.out]) (by rw [R.out]), B8.out⟩
    · have R := Lib.hid (fb_done hz.out (by omega))
      have d : decide (k < l.length) = false := by rw [decide_eq_false_iff_not]; exact hlt
      clear hz hlt HM
      go_wp2_with fail
      go_ret2
      exact ⟨ret_chk (by rw [R.out]) (by rw [R.out]), HB.out⟩
end Go.Proofs.YtkhalnjgbdpfhaaGreat.S14
namespace Go.Proofs.YtkhalnjgbdpfhaaGreat.S14
set_option maxRecDepth 100000
open Go.RowKit

set_option maxRecDepth 100000 in
set_option maxHeartbeats 4000000 in
theorem kexc_any (k d : Int) (f : Bool) (n : Int) (hp : Pl64 (k, d)) (b : Nat) (ls : List (Int × Int)) (w : World) (hm : MapP w b ls) :
    Calls Tryz.prog 76 #[.agg #[.int .i64 k, .int .i64 d, .bool f], .int .i64 n, .map (some b)] w fun e w' => e = .returned (.int .i64 (badX n ls (k, d, f))) ∧ Below w.heap.size w w' := by
  obtain ⟨w7, hw7⟩ : ∃ W, w.alloc (.cells #[.int .i64 k, .int .i64 d, .bool f] 70 (0, 0)) = W := ⟨_, rfl⟩
  obtain ⟨b7, p0, p1, p2, -⟩ := box_ex hw7
  have hm := Lib.hid (hm.below b7)
  have P := Lib.hid (place_any k d f w7)
  have VD := Lib.hid (fun W => dvalid_any d W)
  have B7 := Lib.hid b7
  have RR := Lib.hid (fun h => badX_ref (n := n) (seen := ls) (e := (k, d, f)) h)
  have RD := Lib.hid (fun h h2 => badX_date (n := n) (seen := ls) (e := (k, d, f)) h h2)
  have RT := Lib.hid (fun h h2 h3 => badX_twice (n := n) (seen := ls) (e := (k, d, f)) h h2 h3)
  have RN := Lib.hid (fun h h2 h3 => badX_none (n := n) (seen := ls) (e := (k, d, f)) h h2 h3)
  generalize badX n ls (k, d, f) = q at RR RD RT RN ⊢
  simp only at RR RD RT RN
  clear b7
  by_cases h1 : k < 0
  · have R := Lib.hid (RR.out (.inl h1))
    clear RR RD RT RN P VD hm
    go_enter Tryz.func76, Tryz.ntmps76
    go_wp2_with fail
    go_ret
    exact ⟨ret_int R.out.symm, B7.out⟩
  have d1 : decide (k < 0) = false := decide_eq_false h1
  by_cases h2 : n ≤ k
  · have R := Lib.hid (RR.out (.inr h2))
    clear RR RD RT RN P VD hm h1
    go_enter Tryz.func76, Tryz.ntmps76
    go_wp2_with fail
    go_ret
    exact ⟨ret_int R.out.symm, B7.out⟩
  have d2 : decide (n ≤ k) = false := decide_eq_false h2
  have hn : ¬ (k < 0 ∨ n ≤ k) := by omega
  by_cases h3 : dayP d
  case neg =>
    have R := Lib.hid (RD.out hn h3)
    rw [decide_eq_false h3] at VD
    clear RR RD RT RN P hm h1 h2 h3 hn
    go_enter Tryz.func76, Tryz.ntmps76
    go_wp2_with fail
    refine (VD.out _).mono ?_
    rintro e w' ⟨rfl, rfl⟩
    go_wp2_with fail
    go_ret
    exact ⟨ret_int R.out.symm, B7.out⟩
  rw [decide_eq_true h3] at VD
  by_cases h4 : (k, d) ∈ ls
  · have R := Lib.hid (RT.out hn h3 h4)
    have LD := decide_eq_true h4
    clear RR RD RT RN h1 h2 h3 hn h4
    go_enter Tryz.func76, Tryz.ntmps76
    go_wp2_with fail
    refine (VD.out _).mono ?_
    rintro e w' ⟨rfl, rfl⟩
    go_wp2_with fail
    refine P.out.mono ?_
    rintro e w8 ⟨rfl, b8⟩
    have lk := (hm.out.below b8).look (k, d) hp
    simp only at lk
    rw [LD] at lk
    have B7 := Lib.hid (B7.out.trans (b8.mono B7.out.size))
    clear b8 P hm
    go_wp2_with fail
    go_ret
    exact ⟨ret_int R.out.symm, B7.out⟩
  · have R := Lib.hid (RN.out hn h3 h4)
    have LD := decide_eq_false h4
    clear RR RD RT RN h1 h2 h3 hn h4
    go_enter Tryz.func76, Tryz.ntmps76
    go_wp2_with fail
    refine (VD.out _).mono ?_
    rintro e w' ⟨rfl, rfl⟩
    go_wp2_with fail
    refine P.out.mono ?_
    rintro e w8 ⟨rfl, b8⟩
    have lk := (hm.out.below b8).look (k, d) hp
    simp only at lk
    rw [LD] at lk
    have B7 := Lib.hid (B7.out.trans (b8.mono B7.out.size))
    clear b8 P hm
    go_wp2_with fail
    go_ret
    exact ⟨ret_int R.out.symm, B7.out⟩
set_option maxRecDepth 100000 in
set_option maxHeartbeats 4000000 in
theorem kcx_any (v : Value) (l : List Ex) (n : Int) (hl : l.length ≤ 9223372036854775807) (hs : ∀ (j : Nat) x, l[j]? = some x → Pl64 (plX x)) (w : World) (h : LstX w v l) : Calls Tryz.prog 48 #[v, .int .i64 n] w fun e w' => e = .returned (.tuple #[.int .i64 ((chkX n l).1), .int .i64 ((chkX n l).2)]) ∧ Below w.heap.size w w' := by
  have H := Lib.hid h
  have HS := Lib.hid hs
  clear hs
  obtain ⟨A, c, rfl, -, -, -⟩ := h
  by_cases h64 : 256 < l.length
  · have R := Lib.hid (chkX_many (n := n) h64)
    have g : (256 : Int) < (l.length : Int) := by omega
    generalize chkX n l = q at R ⊢
    clear h64
    go_enter Tryz.func48, Tryz.ntmps48
    go_wp2_with fail
    go_ret2
    exact ⟨ret_chk (by rw [R.out]) (by rw [R.out]), Below.refl _ _⟩
  have g : decide ((256 : Int) < (l.length : Int)) = false := by rw [decide_eq_false_iff_not]; omega
  have ST := Lib.hid (chkX_start (n := n) (l := l) (by omega))
  have h64' : l.length ≤ 256 := by omega
  have hmm := @run_makeMap Tryz.prog
  generalize chkX n l = q at ST ⊢
  clear h64
  go_enter Tryz.func48, Tryz.ntmps48
  go_wp2_with fail
  go_loopw [16] (fun i wr => ∃ k : Nat, i = .int .i64 k ∧ k ≤ l.length ∧ Hid (q = fbF (badX n) plX ((l.take k).map plX) k (l.drop k)) ∧ Hid (MapP wr w.heap.size ((l.take k).map plX)) ∧ Hid (Below w.heap.size w wr)) (fun i _ => l.length - (intOf i).toNat)
  case atStart => exact ⟨0, rfl, Nat.zero_le _, ST, Lib.hid (MapP.made w), Lib.hid ((Below.refl _ _).alloc (Nat.le_refl _) _)⟩
  case round =>
    clear g ST hmm
    obtain ⟨k, rfl, hk, hz, HM, HB⟩ := hrel
    by_cases hlt : k < l.length
    · obtain ⟨⟨ki, di, fi⟩, hx⟩ := at_lt hlt
      have hpl : Hid (Pl64 (ki, di)) := HS.out k _ hx
      obtain ⟨b, o, rfl, hb, r0, r1, r2⟩ := three_at (H.out.below HB.out) hx
      have gk : (k : Int) < (l.length : Int) := by omega
      obtain ⟨w7, hw7⟩ : ∃ W, wr.alloc (.cells #[.int .i64 ki, .int .i64 di, .bool fi] 70 (0, 0)) = W := ⟨_, rfl⟩
      obtain ⟨b7, p0, p1, p2, s7⟩ := box_ex hw7
      have B7 : Hid (Below w.heap.size w w7) := HB.out.trans (b7.mono HB.out.size)
      have M7 := Lib.hid (HM.out.below b7)
      have C := Lib.hid (kexc_any ki di fi n hpl.out w.heap.size ((l.take k).map plX) w7 M7.out)
      by_cases he : badX n ((l.take k).map plX) (ki, di, fi) = 0
      · have N := Lib.hid (fb_next hz.out hx he)
        have T := Lib.hid (key_take (key := plX) hx)
        have hil : Hid (((l.take k).map plX).length ≤ 256) := by show _ ≤ _; rw [List.length_map, List.length_take]; omega
        rw [he] at C
        clear hx hz HB HM b7 hb he
        go_wp2_with fail
        refine C.out.mono ?_
        rintro e w8 ⟨rfl, b8⟩
        have q0 := (b8.cell (p := ⟨wr.heap.size, 0, none⟩) s7).trans p0
        have q1 := (b8.cell (p := ⟨wr.heap.size, 1, none⟩) s7).trans p1
        have q2 := (b8.cell (p := ⟨wr.heap.size, 2, none⟩) s7).trans p2
        have B8 : Hid (Below w.heap.size w w8) := B7.out.trans (b8.mono B7.out.size)
        have M8 := Lib.hid (M7.out.below b8)
        clear b8 p0 p1 p2 B7 M7 C
        go_wp2_with fail
        refine (place_any ki di fi w8).mono ?_
        rintro e w9 ⟨rfl, b9⟩
        have B9 : Hid (Below w.heap.size w w9) := B8.out.trans (b9.mono B8.out.size)
        have M9 := Lib.hid (M8.out.below b9)
        clear b9 B8 M8 q0 q1 q2
        go_wp2_with (at_mapUpdate; refine put_pl _ rfl _ _ _ rfl w.heap.size ((l.take k).map plX) rfl M9.out (ki, di) hpl.out rfl rfl (by have := hil.out; omega) ?_; intro w10 m10 g10)
        have M : Hid (MapP w10 w.heap.size ((l.take (k + 1)).map plX)) := by
          show MapP _ _ _
          rw [T.out]
          exact m10
        have B : Hid (Below w.heap.size w w10) := B9.out.grown g10 B9.out.size (fun j hj => by cases hj; exact Nat.le_refl _)
        clear m10 g10 M9 B9
        go_wp2_with fail
        go_roundw
        case rel => exact ⟨k + 1, by go_num, by omega, N, M, B⟩
        case measure => simp [intOf]; omega
      · have R := Lib.hid (fb_stop hz.out hx rfl he)
        have ne := bne_true he
        generalize badX n ((l.take k).map plX) (ki, di, fi) = y at C R ne
        clear hx hz HB HM b7 hb he
        go_wp2_with fail
        refine C.out.mono ?_
        rintro e w8 ⟨rfl, b8⟩
        have B8 : Hid (Below w.heap.size w w8) := B7.out.trans (b8.mono B7.out.size)
        clear b8 B7 C p0 p1 p2
        go_wp2_with fail
        go_ret2
        exact ⟨ret_chk (by rw [R.out]) (by rw [R.out]), B8.out⟩
    · have R := Lib.hid (fb_done hz.out (by omega))
      have d : decide (k < l.length) = false := by rw [decide_eq_false_iff_not]; exact hlt
      clear hz hlt HM
      go_wp2_with fail
      go_ret2
      exact ⟨ret_chk (by rw [R.out]) (by rw [R.out]), HB.out⟩
end Go.Proofs.YtkhalnjgbdpfhaaGreat.S14
namespace Go.Proofs.YtkhalnjgbdpfhaaGreat.S14
set_option maxRecDepth 100000
open Go.RowKit

end Go.Proofs.YtkhalnjgbdpfhaaGreat.S14
namespace Go.Proofs.YtkhalnjgbdpfhaaGreat.S14
set_option maxRecDepth 100000
open Go.RowKit

end Go.Proofs.YtkhalnjgbdpfhaaGreat.S14
namespace Go.Proofs.YtkhalnjgbdpfhaaGreat.S14
set_option maxRecDepth 100000
open Go.RowKit

set_option maxRecDepth 100000 in
set_option maxHeartbeats 4000000 in
theorem rcheck_all (v : Value) (l : List Cl) (hl : l.length ≤ 9223372036854775807) (w : World) (h : LstC w v l) : Calls Tryz.prog 63 #[v] w fun e w' => e = .returned (.tuple #[.int .i64 ((chkC l).1), .int .i64 ((chkC l).2)]) ∧ ∃ m, w' = w.drewN m := by
  have H := Lib.hid h
  obtain ⟨A, c, rfl, -, -, -⟩ := h
  by_cases h64 : 64 < l.length
  · have R := Lib.hid (chkC_many h64)
    have g : (64 : Int) < (l.length : Int) := by omega
    generalize chkC l = q at R ⊢
    clear h64
    go_enter Tryz.func63, Tryz.ntmps63
    go_wp2_with fail
    go_ret2
    exact ⟨ret_chk (by rw [R.out]) (by rw [R.out]), 0, rfl⟩
  have g : decide ((64 : Int) < (l.length : Int)) = false := by rw [decide_eq_false_iff_not]; omega
  have ST := Lib.hid (chkC_start (l := l) (by omega))
  have h64' : l.length ≤ 64 := by omega
  generalize chkC l = q at ST ⊢
  clear h64
  go_enter Tryz.func63, Tryz.ntmps63
  go_wp2_with fail
  go_loopw [4] (fun i wr => ∃ k : Nat, i = .int .i64 k ∧ k ≤ l.length ∧ Hid (q = fbF badC idC ((l.take k).map idC) k (l.drop k)) ∧ Hid (∃ n, wr = w.drewN n)) (fun i _ => l.length - (intOf i).toNat)
  case atStart => exact ⟨0, rfl, Nat.zero_le _, ST, Lib.hid ⟨0, rfl⟩⟩
  case round =>
    clear g ST
    obtain ⟨k, rfl, hk, hz, hn⟩ := hrel
    by_cases hlt : k < l.length
    · obtain ⟨⟨id, kw, f, t⟩, hx⟩ := at_lt hlt
      obtain ⟨nm, hnm⟩ : ∃ nm, str id = nm := ⟨_, rfl⟩
      obtain ⟨b, o, rfl, hb, r0, -, r8, r9⟩ := ten_at (H.out.below (drew_below hn.out)) hx hnm
      have gk : (k : Int) < (l.length : Int) := by omega
      have hid : nm.data.toList = id := by rw [← hnm]
      have V := Lib.hid (fun W => rvalid_all_any nm W)
      rw [hid] at V
      cases hv : validB id with
      | false =>
        have R := Lib.hid (fb_stop hz.out hx (badC_name (seen := (l.take k).map idC) (x := (id, kw, f, t)) hv) (by decide))
        rw [hv] at V
        clear hx hz hnm hb hid hv r8 r9
        go_wp2_with fail
        refine (V.out _).mono ?_
        rintro e w' ⟨rfl, rfl⟩
        go_wp2_with fail
        go_ret2
        exact ⟨ret_chk (by rw [R.out]) (by rw [R.out]), hn.out⟩
      | true =>
        rw [hv] at V
        have HX := Lib.hid hx
        have HNM := Lib.hid hnm
        have HV := Lib.hid hv
        clear hx hid hv hnm hb r8 r9
        go_wp2_with fail
        refine (V.out _).mono ?_
        rintro e w' ⟨rfl, rfl⟩
        clear V r0
        go_wp2_with fail
        go_loopw [5] (fun i wr => ∃ j : Nat, i = .int .i64 j ∧ j ≤ k ∧ Hid (∀ (t' : Nat) (x : Cl), t' < j → l[t']? = some x → idC x ≠ id) ∧ Hid (∃ n, wr = w.drewN n)) (fun i _ => k - (intOf i).toNat)
        case atStart => exact ⟨0, rfl, Nat.zero_le _, Lib.hid (fun t' x ht => absurd ht (Nat.not_lt_zero _)), hn⟩
        case round =>
          clear hn
          obtain ⟨j, rfl, hj, hall, hn⟩ := hrel
          by_cases hjk : j < k
          · obtain ⟨⟨id2, kw2, f2, t2⟩, hy⟩ := at_lt (show j < l.length by omega)
            obtain ⟨nm2, hnm2⟩ : ∃ nm, str id2 = nm := ⟨_, rfl⟩
            obtain ⟨b1, o1, e1, hb1, r0, -, -, -⟩ := ten_at (H.out.below (drew_below hn.out)) HX.out HNM.out
            obtain ⟨b2, o2, e2, hb2, s0, -, -, -⟩ := ten_at (H.out.below (drew_below hn.out)) hy hnm2
            cases e1
            cases e2
            have gj : (j : Int) < (l.length : Int) := by omega
            have gj2 : (j : Int) < (k : Int) := by omega
            by_cases hid : id2 = id
            · have R := Lib.hid (fb_stop hz.out HX.out (badC_twice (seen := (l.take k).map idC) (x := (id, kw, f, t)) HV.out (keys_hit hjk hy hid)) (by decide))
              have eb := bytes_eq (show nm2 = nm by rw [← hnm2, ← HNM.out, hid])
              clear hz hy hnm2 hb1 hb2 hid hall HX HNM HV
              go_wp2_with fail
              go_quiet (fail)
              go_wp2_with fail
              go_ret2
              exact ⟨ret_chk (by rw [R.out]) (by rw [R.out]), (drew_on hn nq).out⟩
            · have N : Hid (∀ (t' : Nat) (x : Cl), t' < j + 1 → l[t']? = some x → idC x ≠ id) := by
                intro t' x ht hx
                by_cases e : t' = j
                · subst e
                  rw [hy] at hx
                  obtain rfl := Option.some.inj hx
                  exact hid
                · exact hall.out t' x (by omega) hx
              have eb := bytes_ne (str_ne hnm2 HNM.out hid)
              clear hy hnm2 hb1 hb2 hid hall
              go_wp2_with fail
              go_quiet (fail)
              go_wp2_with fail
              go_roundw
              case rel => exact ⟨j + 1, by go_num, by omega, N, drew_on hn nq⟩
              case measure => simp [intOf]; omega
          · have dj : decide (j < k) = false := by rw [decide_eq_false_iff_not]; exact hjk
            have NM : id ∉ (l.take k).map idC := keys_none fun t' x ht hx => hall.out t' x (by omega) hx
            obtain ⟨b1, o1, e1, hb1, r0, -, r8, r9⟩ := ten_at (H.out.below (drew_below hn.out)) HX.out HNM.out
            cases e1
            have RF := Lib.hid (fun hf => fb_stop hz.out HX.out (badC_date (x := (id, kw, f, t)) HV.out NM hf) (by decide))
            have RN := Lib.hid (fun hf => fb_next hz.out HX.out (badC_none (x := (id, kw, f, t)) HV.out NM hf))
            simp only at RF RN
            have VF := Lib.hid (fun W => rdvalid_any f W)
            have VT := Lib.hid (fun W => rdvalid_any t W)
            clear hz hall NM hjk HX HNM HV hb1 r0
            by_cases h1 : dayP f
            case neg =>
              have R := Lib.hid (RF.out fun h => h1 h.1)
              rw [decide_eq_false h1] at VF
              clear RF RN h1 r9
              go_wp2_with fail
              go_quiet (first | (go_at_call 97; with_reducible exact quiet_of VF.out _ _) | (go_at_call 97; with_reducible exact quiet_of VT.out _ _))
              go_wp2_with fail
              go_ret2
              exact ⟨ret_chk (by rw [R.out]) (by rw [R.out]), (drew_on hn nq).out⟩
            rw [decide_eq_true h1] at VF
            by_cases h2 : dayP t
            case neg =>
              have R := Lib.hid (RF.out fun h => h2 h.2.1)
              rw [decide_eq_false h2] at VT
              clear RF RN h1 h2
              go_wp2_with fail
              go_quiet (first | (go_at_call 97; with_reducible exact quiet_of VF.out _ _) | (go_at_call 97; with_reducible exact quiet_of VT.out _ _))
              go_wp2_with fail
              go_ret2
              exact ⟨ret_chk (by rw [R.out]) (by rw [R.out]), (drew_on hn nq).out⟩
            rw [decide_eq_true h2] at VT
            by_cases h3 : t < f
            case pos =>
              have R := Lib.hid (RF.out fun h => by have := h.2.2; omega)
              have d3 := decide_eq_true h3
              clear RF RN h1 h2 h3
              go_wp2_with fail
              go_quiet (first | (go_at_call 97; with_reducible exact quiet_of VF.out _ _) | (go_at_call 97; with_reducible exact quiet_of VT.out _ _))
              go_wp2_with fail
              go_ret2
              exact ⟨ret_chk (by rw [R.out]) (by rw [R.out]), (drew_on hn nq).out⟩
            have N := Lib.hid (RN.out ⟨h1, h2, by omega⟩)
            have d3 : decide (t < f) = false := decide_eq_false h3
            clear RF RN h1 h2 h3
            go_wp2_with fail
            go_quiet (first | (go_at_call 97; with_reducible exact quiet_of VF.out _ _) | (go_at_call 97; with_reducible exact quiet_of VT.out _ _))
            go_wp2_with fail
            go_roundw
            case rel => exact ⟨k + 1, by go_num, by omega, N, drew_on hn nq⟩
            case measure => simp [intOf]; omega
    · have R := Lib.hid (fb_done hz.out (by omega))
      have d : decide (k < l.length) = false := by rw [decide_eq_false_iff_not]; exact hlt
      clear hz hlt
      go_wp2_with fail
      go_ret2
      exact ⟨ret_chk (by rw [R.out]) (by rw [R.out]), hn.out⟩
end Go.Proofs.YtkhalnjgbdpfhaaGreat.S14
namespace Go.Proofs.YtkhalnjgbdpfhaaGreat.S14
set_option maxRecDepth 100000
open Go.RowKit

set_option maxRecDepth 100000 in
set_option maxHeartbeats 4000000 in
theorem rcx_any (v : Value) (l : List Ex) (n : Int) (hl : l.length ≤ 9223372036854775807) (w : World) (h : LstX w v l) : Calls Tryz.prog 64 #[v, .int .i64 n] w fun e w' => e = .returned (.tuple #[.int .i64 ((chkX n l).1), .int .i64 ((chkX n l).2)]) ∧ ∃ m, w' = w.drewN m := by
  have H := Lib.hid h
  obtain ⟨A, c, rfl, -, -, -⟩ := h
  by_cases h64 : 256 < l.length
  · have R := Lib.hid (chkX_many (n := n) h64)
    have g : (256 : Int) < (l.length : Int) := by omega
    generalize chkX n l = q at R ⊢
    clear h64
    go_enter Tryz.func64, Tryz.ntmps64
    go_wp2_with fail
    go_ret2
    exact ⟨ret_chk (by rw [R.out]) (by rw [R.out]), 0, rfl⟩
  have g : decide ((256 : Int) < (l.length : Int)) = false := by rw [decide_eq_false_iff_not]; omega
  have ST := Lib.hid (chkX_start (n := n) (l := l) (by omega))
  have h64' : l.length ≤ 256 := by omega
  generalize chkX n l = q at ST ⊢
  clear h64
  go_enter Tryz.func64, Tryz.ntmps64
  go_wp2_with fail
  go_loopw [6] (fun i wr => ∃ k : Nat, i = .int .i64 k ∧ k ≤ l.length ∧ Hid (q = fbF (badX n) plX ((l.take k).map plX) k (l.drop k)) ∧ Hid (∃ n, wr = w.drewN n)) (fun i _ => l.length - (intOf i).toNat)
  case atStart => exact ⟨0, rfl, Nat.zero_le _, ST, Lib.hid ⟨0, rfl⟩⟩
  case round =>
    clear g ST
    obtain ⟨k, rfl, hk, hz, hn⟩ := hrel
    by_cases hlt : k < l.length
    · obtain ⟨⟨ki, di, fi⟩, hx⟩ := at_lt hlt
      obtain ⟨b, o, rfl, hb, r0, r1, -⟩ := three_at (H.out.below (drew_below hn.out)) hx
      have gk : (k : Int) < (l.length : Int) := by omega
      have RR := Lib.hid (fun h => fb_stop hz.out hx (badX_ref (n := n) (seen := (l.take k).map plX) (e := (ki, di, fi)) h) (by decide))
      have RD := Lib.hid (fun h h2 => fb_stop hz.out hx (badX_date (n := n) (seen := (l.take k).map plX) (e := (ki, di, fi)) h h2) (by decide))
      have RT := Lib.hid (fun h h2 h3 => fb_stop hz.out hx (badX_twice (n := n) (seen := (l.take k).map plX) (e := (ki, di, fi)) h h2 h3) (by decide))
      have RN := Lib.hid (fun h h2 h3 => fb_next hz.out hx (badX_none (n := n) (seen := (l.take k).map plX) (e := (ki, di, fi)) h h2 h3))
      simp only at RR RD RT RN
      have VD := Lib.hid (fun W => rdvalid_any di W)
      have HX := Lib.hid hx
      clear hz hx hb
      by_cases h1 : ki < 0
      · have R := Lib.hid (RR.out (.inl h1))
        clear RR RD RT RN VD r1
        go_wp2_with fail
        go_ret2
        exact ⟨ret_chk (by rw [R.out]) (by rw [R.out]), hn.out⟩
      have d1 : decide (ki < 0) = false := decide_eq_false h1
      by_cases h2 : n ≤ ki
      · have R := Lib.hid (RR.out (.inr h2))
        clear RR RD RT RN VD r1 h1
        go_wp2_with fail
        go_ret2
        exact ⟨ret_chk (by rw [R.out]) (by rw [R.out]), hn.out⟩
      have d2 : decide (n ≤ ki) = false := decide_eq_false h2
      have hnr : ¬ (ki < 0 ∨ n ≤ ki) := by omega
      by_cases h3 : dayP di
      case neg =>
        have R := Lib.hid (RD.out hnr h3)
        rw [decide_eq_false h3] at VD
        clear RR RD RT RN h1 h2 h3 hnr
        go_wp2_with fail
        refine (VD.out _).mono ?_
        rintro e w' ⟨rfl, rfl⟩
        go_wp2_with fail
        go_ret2
        exact ⟨ret_chk (by rw [R.out]) (by rw [R.out]), hn.out⟩
      have RT := Lib.hid (RT.out hnr h3)
      have RN := Lib.hid (RN.out hnr h3)
      rw [decide_eq_true h3] at VD
      clear RR RD h1 h2 h3 hnr
      go_wp2_with fail
      refine (VD.out _).mono ?_
      rintro e w' ⟨rfl, rfl⟩
      clear VD r0 r1
      go_wp2_with fail
      go_loopw [7] (fun i wr => ∃ j : Nat, i = .int .i64 j ∧ j ≤ k ∧ Hid (∀ (t' : Nat) (x : Ex), t' < j → l[t']? = some x → plX x ≠ (ki, di)) ∧ Hid (∃ n, wr = w.drewN n)) (fun i _ => k - (intOf i).toNat)
      case atStart => exact ⟨0, rfl, Nat.zero_le _, Lib.hid (fun t' x ht => absurd ht (Nat.not_lt_zero _)), hn⟩
      case round =>
        clear hn
        obtain ⟨j, rfl, hj, hall, hn⟩ := hrel
        by_cases hjk : j < k
        · obtain ⟨⟨kj, dj, fj⟩, hy⟩ := at_lt (show j < l.length by omega)
          obtain ⟨b1, o1, e1, hb1, r0, r1, -⟩ := three_at (H.out.below (drew_below hn.out)) HX.out
          obtain ⟨b2, o2, e2, hb2, s0, s1, -⟩ := three_at (H.out.below (drew_below hn.out)) hy
          cases e1
          cases e2
          have gj : (j : Int) < (l.length : Int) := by omega
          have gj2 : (j : Int) < (k : Int) := by omega
          have NX : Hid (plX (kj, dj, fj) ≠ (ki, di) → ∀ (t' : Nat) (x : Ex), t' < j + 1 → l[t']? = some x → plX x ≠ (ki, di)) := by
            intro hne t' x ht hx
            by_cases e : t' = j
            · subst e
              rw [hy] at hx
              obtain rfl := Option.some.inj hx
              exact hne
            · exact hall.out t' x (by omega) hx
          by_cases e1 : kj = ki
          · have q1 := beq_true e1
            by_cases e2 : dj = di
            · have q2 := beq_true e2
              have R := Lib.hid (RT.out (keys_hit hjk hy (by rw [← e1, ← e2]; rfl)))
              clear hy hb1 hb2 e1 e2 hall HX NX RT RN
              go_wp2_with fail
              go_quiet (fail)
              go_wp2_with fail
              go_ret2
              exact ⟨ret_chk (by rw [R.out]) (by rw [R.out]), (drew_on hn nq).out⟩
            · have q2 := beq_false e2
              have N := Lib.hid (NX.out fun h => e2 (congrArg Prod.snd h))
              clear hy hb1 hb2 e1 e2 hall NX
              go_wp2_with fail
              go_quiet (fail)
              go_wp2_with fail
              go_roundw
              case rel => exact ⟨j + 1, by go_num, by omega, N, drew_on hn nq⟩
              case measure => simp [intOf]; omega
          · have q1 := beq_false e1
            have N := Lib.hid (NX.out fun h => e1 (congrArg Prod.fst h))
            clear hy hb1 hb2 e1 hall NX
            go_wp2_with fail
            go_quiet (fail)
            go_wp2_with fail
            go_roundw
            case rel => exact ⟨j + 1, by go_num, by omega, N, drew_on hn nq⟩
            case measure => simp [intOf]; omega
        · have dj : decide (j < k) = false := by rw [decide_eq_false_iff_not]; exact hjk
          have N := Lib.hid (RN.out (keys_none fun t' x ht hx => hall.out t' x (by omega) hx))
          clear hall hjk HX RT RN
          go_wp2_with fail
          go_roundw
          case rel => exact ⟨k + 1, by go_num, by omega, N, hn⟩
          case measure => simp [intOf]; omega
    · have R := Lib.hid (fb_done hz.out (by omega))
      have d : decide (k < l.length) = false := by rw [decide_eq_false_iff_not]; exact hlt
      clear hz hlt
      go_wp2_with fail
      go_ret2
      exact ⟨ret_chk (by rw [R.out]) (by rw [R.out]), hn.out⟩
end Go.Proofs.YtkhalnjgbdpfhaaGreat.S14
namespace Go.Proofs.YtkhalnjgbdpfhaaGreat.S14
set_option maxRecDepth 100000
open Go.RowKit Go.ChangeShapes Go.WideShapes Go.Deep

theorem trod_week {H : Type} {enc : TypeId × Value → H} {W : World} {n : Nat} {cs : List Value} {x : DataW H × List MemPlace} (h : DataW.trod enc Tryz.prog W 0 (fun _ => true) true n 65 cs = some x) :
    ∃ k : Nat → Bool, cs = [.bool (k 0), .bool (k 1), .bool (k 2), .bool (k 3), .bool (k 4), .bool (k 5), .bool (k 6)] := by
  obtain ⟨xs, m, _, _, hl, hxs, hi⟩ := DataW.trod_array Tryz.underlying65 h
  rw [show Tryz.prog.cellsOf 65 = 7 by kernel_rfl] at hl
  rw [show Tryz.prog.cellsOf 4 = 1 by kernel_rfl] at hi
  have one : ∀ i, i < 7 → ∃ b, (cs.drop (i * 1)).take 1 = [.bool b] := by
    intro i h7
    have := hi i h7
    rw [List.getElem?_eq_getElem (by omega)] at this
    obtain ⟨b, e, _⟩ := DataW.trod_bool Tryz.underlying4 this
    exact ⟨b, e⟩
  match cs, hl with
  | [c0, c1, c2, c3, c4, c5, c6], _ =>
    obtain ⟨b0, e0⟩ := one 0 (by omega)
    obtain ⟨b1, e1⟩ := one 1 (by omega)
    obtain ⟨b2, e2⟩ := one 2 (by omega)
    obtain ⟨b3, e3⟩ := one 3 (by omega)
    obtain ⟨b4, e4⟩ := one 4 (by omega)
    obtain ⟨b5, e5⟩ := one 5 (by omega)
    obtain ⟨b6, e6⟩ := one 6 (by omega)
    simp at e0 e1 e2 e3 e4 e5 e6
    subst e0 e1 e2 e3 e4 e5 e6
    exact ⟨fun i => [b0, b1, b2, b3, b4, b5, b6].getD i false, rfl⟩
theorem trod_cal {H : Type} {enc : TypeId × Value → H} {W : World} {n : Nat} {cs : List Value} {x : DataW H × List MemPlace} (h : DataW.trod enc Tryz.prog W 0 (fun _ => true) true n 67 cs = some x) :
    ∃ a : Cl, ((-9223372036854775808 ≤ a.2.2.1 ∧ a.2.2.1 ≤ 9223372036854775807) ∧ -9223372036854775808 ≤ a.2.2.2 ∧ a.2.2.2 ≤ 9223372036854775807) ∧ cs = ce a := by
  obtain ⟨y0, y1, y2, y3, n, _, hl, h0, h1, h2, h3⟩ := Go.Joins.trod_struct4 Tryz.underlying67 h
  rw [show Tryz.prog.cellsOf 67 = 10 by kernel_rfl] at hl
  match cs, hl with
  | [c0, c1, c2, c3, c4, c5, c6, c7, c8, c9], _ =>
    simp only [show Tryz.prog.cellsOf 9 = 1 by kernel_rfl, show Tryz.prog.cellsOf 3 = 1 by kernel_rfl, show Tryz.prog.cellsOf 65 = 7 by kernel_rfl] at h0 h1 h2 h3
    obtain ⟨s, e0, -⟩ := DataW.trod_string Tryz.underlying9 h0
    obtain ⟨k, e1⟩ := trod_week h1
    obtain ⟨f, e2, _, w2⟩ := DataW.trod_int Tryz.underlying3 h2
    obtain ⟨t, e3, _, w3⟩ := DataW.trod_int Tryz.underlying3 h3
    simp at e0 e1 e2 e3
    obtain ⟨rfl, rfl, rfl, rfl, rfl, rfl, rfl⟩ := e1
    subst e0 e2 e3
    refine ⟨(s.data.toList, k, f, t), ⟨⟨int_low w2, int_top w2⟩, int_low w3, int_top w3⟩, ?_⟩
    unfold ce
    rw [str_list]
theorem trod_struct_three {H : Type} {enc : TypeId × Value → H} {P : Program} {w : World} {base : Nat} {spare : Nat → Bool} {held : Bool} {t : TypeId} {f0 f1 f2 : Field} {fuel : Nat} {cs : List Value} {x : DataW H × List MemPlace} (ht : P.underlying t = some (.struct #[f0, f1, f2])) (h : DataW.trod enc P w base spare held fuel t cs = some x) :
    ∃ y0 y1 y2 n, cs.length = P.cellsOf t ∧ DataW.trod enc P w base spare held n f0.type ((cs.drop f0.offset).take (P.cellsOf f0.type)) = some y0 ∧
      DataW.trod enc P w base spare held n f1.type ((cs.drop f1.offset).take (P.cellsOf f1.type)) = some y1 ∧ DataW.trod enc P w base spare held n f2.type ((cs.drop f2.offset).take (P.cellsOf f2.type)) = some y2 := by
  obtain ⟨xs, n, _, rfl, hl, hlen, hf⟩ := DataW.trod_struct ht h
  match xs, hlen with
  | [y0, y1, y2], _ => exact ⟨y0, y1, y2, n, hl, by simpa using hf 0 f0 rfl, by simpa using hf 1 f1 rfl, by simpa using hf 2 f2 rfl⟩
theorem trod_exc {H : Type} {enc : TypeId × Value → H} {W : World} {n : Nat} {cs : List Value} {x : DataW H × List MemPlace} (h : DataW.trod enc Tryz.prog W 0 (fun _ => true) true n 70 cs = some x) :
    ∃ a : Ex, ((-9223372036854775808 ≤ a.1 ∧ a.1 ≤ 9223372036854775807) ∧ -9223372036854775808 ≤ a.2.1 ∧ a.2.1 ≤ 9223372036854775807) ∧ cs = xe a := by
  obtain ⟨y0, y1, y2, n, hl, h0, h1, h2⟩ := trod_struct_three Tryz.underlying70 h
  rw [show Tryz.prog.cellsOf 70 = 3 by kernel_rfl] at hl
  match cs, hl with
  | [c0, c1, c2], _ =>
    simp only [show Tryz.prog.cellsOf 3 = 1 by kernel_rfl, show Tryz.prog.cellsOf 4 = 1 by kernel_rfl] at h0 h1 h2
    obtain ⟨k, e0, _, w0⟩ := DataW.trod_int Tryz.underlying3 h0
    obtain ⟨d, e1, _, w1⟩ := DataW.trod_int Tryz.underlying3 h1
    obtain ⟨f, e2, -⟩ := DataW.trod_bool Tryz.underlying4 h2
    simp at e0 e1 e2
    subst e0 e1 e2
    exact ⟨(k, d, f), ⟨⟨int_low w0, int_top w0⟩, int_low w1, int_top w1⟩, rfl⟩
end Go.Proofs.YtkhalnjgbdpfhaaGreat.S14
