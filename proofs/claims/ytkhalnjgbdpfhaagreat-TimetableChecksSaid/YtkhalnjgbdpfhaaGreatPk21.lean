/-
  Plain facts about fare products: the first bad one, the zones and the modes of rides, which rides a product covers, prices, the cheapest product: no program. Condition: none beyond each theorem's own hypotheses. Products, rides and fares in memory: the cells of each, each put into a box of its own. Condition: none beyond each theorem's own hypotheses. The code's checks of prices, durations, products and fares: what each call answers; nothing that existed before the call has changed behind it. Condition: lists of fewer than 2^63 products. The reference's within, Right, Check: what each call answers; nothing that existed before the call has changed behind it. Condition: lists of fewer than 2^63 products. Products, rides and fares among the arguments of this package's laws. Condition: none beyond each theorem's own hypotheses.
-/
import Derived.Test.YtkhalnjgbdpfhaaGreatShP
import Derived.Test.YtkhalnjgbdpfhaaGreatShA
import Derived.Test.YtkhalnjgbdpfhaaGreatMap
import Derived.Test.YtkhalnjgbdpfhaaGreatShV
import Derived.Test.YtkhalnjgbdpfhaaGreatShB
import Derived.Laws.Rows
import Derived.Test.YtkhalnjgbdpfhaaGreatJId
import Derived.Deep.Strs
import Derived.Lib.SmallJoins
namespace Go.Proofs.YtkhalnjgbdpfhaaGreat.S21
set_option maxRecDepth 100000
open Go

/-- A product: its identifier, price, rides, zones, seconds, modes. -/
abbrev Pd := List UInt8 × Int × Int × Int × Int × Int
/-- A ride: when it departs and arrives, its zones, its modes. -/
abbrev Ri := Int × Int × Int × Int
/-- The numbers of a product are right. -/
def okPd (p : Pd) : Prop := (0 ≤ p.2.1 ∧ p.2.1 ≤ 1000000) ∧ (1 ≤ p.2.2.1 ∧ p.2.2.1 ≤ 8) ∧ (1 ≤ p.2.2.2.1 ∧ p.2.2.2.1 ≤ 16) ∧ (0 ≤ p.2.2.2.2.1 ∧ p.2.2.2.2.1 ≤ 86400) ∧ 1 ≤ p.2.2.2.2.2 ∧ p.2.2.2.2.2 ≤ 255
instance (p : Pd) : Decidable (okPd p) := by unfold okPd; infer_instance
/-- The error of one product behind products with these identifiers. -/
def badPd (seen : List (List UInt8)) (x : Pd) : Int := if validB x.1 = false then 12 else if x.1 ∈ seen then 6 else if okPd x then 0 else 2
theorem badPd_name {seen : List (List UInt8)} {x : Pd} (h : validB x.1 = false) : badPd seen x = 12 := by unfold badPd; rw [if_pos h]
theorem badPd_twice {seen : List (List UInt8)} {x : Pd} (h : validB x.1 = true) (h2 : x.1 ∈ seen) : badPd seen x = 6 := by unfold badPd; rw [if_neg (by rw [h]; simp), if_pos h2]
theorem badPd_range {seen : List (List UInt8)} {x : Pd} (h : validB x.1 = true) (h2 : x.1 ∉ seen) (h3 : ¬ okPd x) : badPd seen x = 2 := by unfold badPd; rw [if_neg (by rw [h]; simp), if_neg h2, if_neg h3]
theorem badPd_none {seen : List (List UInt8)} {x : Pd} (h : validB x.1 = true) (h2 : x.1 ∉ seen) (h3 : okPd x) : badPd seen x = 0 := by unfold badPd; rw [if_neg (by rw [h]; simp), if_neg h2, if_pos h3]
def idPd (x : Pd) : List UInt8 := x.1
/-- The fares' own numbers are right: discount, seconds within, cap. -/
def okFa (d wi c : Int) : Prop := (0 ≤ d ∧ d ≤ 1000000) ∧ (0 ≤ wi ∧ wi ≤ 86400) ∧ 0 ≤ c ∧ c ≤ 1000000
instance (d wi c : Int) : Decidable (okFa d wi c) := by unfold okFa; infer_instance
/-- What Check answers. -/
def chkPd (d wi c : Int) (l : List Pd) : Int × Int := if ¬ okFa d wi c then (-1, 2) else if 16 < l.length then (0, 5) else fbF badPd idPd [] 0 l
theorem chkPd_range {d wi c : Int} {l : List Pd} (h : ¬ okFa d wi c) : chkPd d wi c l = (-1, 2) := by unfold chkPd; rw [if_pos h]
theorem chkPd_many {d wi c : Int} {l : List Pd} (h : okFa d wi c) (h2 : 16 < l.length) : chkPd d wi c l = (0, 5) := by unfold chkPd; rw [if_neg (fun k => k h), if_pos h2]
theorem chkPd_start {d wi c : Int} {l : List Pd} (h : okFa d wi c) (h2 : l.length ≤ 16) : chkPd d wi c l = fbF badPd idPd ((l.take 0).map idPd) 0 (l.drop 0) := by unfold chkPd; rw [if_neg (fun k => k h), if_neg (by omega)]; rfl

section
variable {f : Ri → Int}
end
section
variable {c : Pd → Bool} {q : Option (Nat × Int)} {k : Nat} {x : Pd} {l : List Pd}
end
end Go.Proofs.YtkhalnjgbdpfhaaGreat.S21
namespace Go.Proofs.YtkhalnjgbdpfhaaGreat.S21
set_option maxRecDepth 100000
open Go.RowKit

/-- An int has 64 bits. -/
def Ix64 (x : Int) : Prop := -9223372036854775808 ≤ x ∧ x ≤ 9223372036854775807
/-- A product as cells. -/
def pdE (x : Pd) : List Value := [.string (str x.1), .int .i64 x.2.1, .int .i64 x.2.2.1, .int .i64 x.2.2.2.1, .int .i64 x.2.2.2.2.1, .int .i64 x.2.2.2.2.2]
theorem pdE_len (x : Pd) : (pdE x).length = 6 := rfl
abbrev LstPd := @LstG Pd pdE
/-- The six cells of a product. -/
theorem six_at {w : World} {A : Option Addr} {n c : Nat} {l : List Pd} (h : LstPd w (.slice A n c) l) {i : Nat} {id : List UInt8} {p r z t m : Int} (hs : l[i]? = some (id, p, r, z, t, m)) {s : ByteArray} (hst : str id = s) :
    ∃ b o, A = some ⟨b, o, none⟩ ∧ b < w.heap.size ∧ w.cell? ⟨b, o + i * 6, none⟩ = some (.string s) ∧ w.cell? ⟨b, o + i * 6 + 1, none⟩ = some (.int .i64 p) ∧ w.cell? ⟨b, o + i * 6 + 2, none⟩ = some (.int .i64 r) ∧ w.cell? ⟨b, o + i * 6 + 3, none⟩ = some (.int .i64 z) ∧ w.cell? ⟨b, o + i * 6 + 4, none⟩ = some (.int .i64 t) ∧ w.cell? ⟨b, o + i * 6 + 5, none⟩ = some (.int .i64 m) := by
  subst hst
  obtain ⟨A', c', hv, _, _, hx⟩ := h
  cases hv
  have hi := (List.getElem?_eq_some_iff.1 hs).1
  obtain ⟨b, o, rfl, hb, hcell⟩ := hx (by omega)
  exact ⟨b, o, rfl, hb, hcell (i * 6) _ (by rw [← Nat.add_zero (i * 6), fl_at pdE_len hs 0 (by omega)]; rfl), (hcell (i * 6 + 1) _ (by rw [fl_at pdE_len hs 1 (by omega)]; rfl) : _), (hcell (i * 6 + 2) _ (by rw [fl_at pdE_len hs 2 (by omega)]; rfl) : _), (hcell (i * 6 + 3) _ (by rw [fl_at pdE_len hs 3 (by omega)]; rfl) : _), (hcell (i * 6 + 4) _ (by rw [fl_at pdE_len hs 4 (by omega)]; rfl) : _), (hcell (i * 6 + 5) _ (by rw [fl_at pdE_len hs 5 (by omega)]; rfl) : _)⟩
/-- A product as a value, in a box. -/
abbrev pdV (s : ByteArray) (p r z t m : Int) : Value := .agg #[.string s, .int .i64 p, .int .i64 r, .int .i64 z, .int .i64 t, .int .i64 m]
abbrev boxP (s : ByteArray) (p r z t m : Int) : Obj := .cells #[.string s, .int .i64 p, .int .i64 r, .int .i64 z, .int .i64 t, .int .i64 m] 87 (0, 0)
theorem row_pd {w : World} {k : Nat} {s : ByteArray} {p r z t m : Int} (h : w.heap[k]? = some (boxP s p r z t m)) :
    w.cell? ⟨k, 0, none⟩ = some (.string s) ∧ w.cell? ⟨k, 1, none⟩ = some (.int .i64 p) ∧ w.cell? ⟨k, 2, none⟩ = some (.int .i64 r) ∧ w.cell? ⟨k, 3, none⟩ = some (.int .i64 z) ∧ w.cell? ⟨k, 4, none⟩ = some (.int .i64 t) ∧ w.cell? ⟨k, 5, none⟩ = some (.int .i64 m) :=
  ⟨by rw [cell_of_row _ _ 0 _ _ _ h]; rfl, by rw [cell_of_row _ _ 1 _ _ _ h]; rfl, by rw [cell_of_row _ _ 2 _ _ _ h]; rfl, by rw [cell_of_row _ _ 3 _ _ _ h]; rfl, by rw [cell_of_row _ _ 4 _ _ _ h]; rfl, by rw [cell_of_row _ _ 5 _ _ _ h]; rfl⟩
theorem box_pd {w w7 : World} {s : ByteArray} {p r z t m : Int} (h : w.alloc (boxP s p r z t m) = w7) :
    Below w.heap.size w w7 ∧ w7.cell? ⟨w.heap.size, 0, none⟩ = some (.string s) ∧ w7.cell? ⟨w.heap.size, 1, none⟩ = some (.int .i64 p) ∧ w7.cell? ⟨w.heap.size, 2, none⟩ = some (.int .i64 r) ∧ w7.cell? ⟨w.heap.size, 3, none⟩ = some (.int .i64 z) ∧ w7.cell? ⟨w.heap.size, 4, none⟩ = some (.int .i64 t) ∧ w7.cell? ⟨w.heap.size, 5, none⟩ = some (.int .i64 m) ∧ w.heap.size < w7.heap.size := by
  subst h
  have c7 := heap_alloc_new w (boxP s p r z t m)
  obtain ⟨h0, h1, h2, h3, h4, h5⟩ := row_pd c7
  exact ⟨(Below.refl _ _).alloc (Nat.le_refl _) _, h0, h1, h2, h3, h4, h5, by simp⟩
/-- Fares as a value (their products, the discount, the seconds within, the cap), in a box. -/
abbrev faV (v : Value) (d wi c : Int) : Value := .agg #[v, .int .i64 d, .int .i64 wi, .int .i64 c]
abbrev boxFa (v : Value) (d wi c : Int) : Obj := .cells #[v, .int .i64 d, .int .i64 wi, .int .i64 c] 33 (0, 0)
theorem row_fa {w : World} {k : Nat} {v : Value} {d wi c : Int} (h : w.heap[k]? = some (boxFa v d wi c)) :
    w.cell? ⟨k, 0, none⟩ = some v ∧ w.cell? ⟨k, 1, none⟩ = some (.int .i64 d) ∧ w.cell? ⟨k, 2, none⟩ = some (.int .i64 wi) ∧ w.cell? ⟨k, 3, none⟩ = some (.int .i64 c) :=
  ⟨by rw [cell_of_row _ _ 0 _ _ _ h]; rfl, by rw [cell_of_row _ _ 1 _ _ _ h]; rfl, by rw [cell_of_row _ _ 2 _ _ _ h]; rfl, by rw [cell_of_row _ _ 3 _ _ _ h]; rfl⟩
theorem box_fa {w w7 : World} {v : Value} {d wi c : Int} (h : w.alloc (boxFa v d wi c) = w7) :
    Below w.heap.size w w7 ∧ w7.cell? ⟨w.heap.size, 0, none⟩ = some v ∧ w7.cell? ⟨w.heap.size, 1, none⟩ = some (.int .i64 d) ∧ w7.cell? ⟨w.heap.size, 2, none⟩ = some (.int .i64 wi) ∧ w7.cell? ⟨w.heap.size, 3, none⟩ = some (.int .i64 c) ∧ w.heap.size < w7.heap.size ∧ w7.heap[w.heap.size]? = some (boxFa v d wi c) := by
  subst h
  have c7 := heap_alloc_new w (boxFa v d wi c)
  obtain ⟨h0, h1, h2, h3⟩ := row_fa c7
  exact ⟨(Below.refl _ _).alloc (Nat.le_refl _) _, h0, h1, h2, h3, by simp, c7⟩
theorem ret_chk {a b c d : Int} (h : a = b) (k : c = d) : Ending.returned (.tuple #[.int .i64 a, .int .i64 c]) = .returned (.tuple #[.int .i64 b, .int .i64 d]) := by rw [h, k]
theorem str_ne {id : List UInt8} {x : List UInt8} {s t : ByteArray} (hs : str x = s) (ht : str id = t) (h : x ≠ id) : s ≠ t := by
  intro e
  apply h
  have e2 : str x = str id := by rw [hs, ht, e]
  have := congrArg (fun b : ByteArray => b.data.toList) e2
  simpa [str] using this
end Go.Proofs.YtkhalnjgbdpfhaaGreat.S21
namespace Go.Proofs.YtkhalnjgbdpfhaaGreat.S21
set_option maxRecDepth 100000
open Go.RowKit

/-- Valid, whatever the length. -/
theorem valid_all_any (s : ByteArray) (w : World) : Calls Tryz.prog 78 #[.string s] w fun e w' => e = .returned (.bool (validB s.data.toList)) ∧ w = w' := by
  by_cases hs : s.size ≤ 1099511627776
  · exact valid_any s hs w
  have e := valid_long s (by omega)
  have he : s.toList.isEmpty = false := by rw [nil_iff, decide_eq_false_iff_not]; omega
  have g : (32 : Int) < (s.size : Int) := by omega
  clear hs
  rw [e]
  go_enter Tryz.func78, Tryz.ntmps78
  go_wp2_with fail
  go_ret
  exact ⟨rfl, rfl⟩
theorem valid_small {s : ByteArray} {id : List UInt8} (hs : str id = s) (hv : validB id = true) : s.size ≤ 32 := by
  rw [← hs, size_str]
  exact valid_le hv
theorem badPd_valid {seen : List (List UInt8)} {x : Pd} (h : badPd seen x = 0) : validB x.1 = true := by
  cases hv : validB x.1 with
  | true => rfl
  | false => rw [badPd_name hv] at h; cases h
set_option maxRecDepth 100000 in
set_option maxHeartbeats 4000000 in
theorem kft_any (n a b : Int) (w : World) : Calls Tryz.prog 128 #[.int .i64 n, .int .i64 a, .int .i64 b] w fun e w' => e = .returned (.bool (decide (a ≤ n ∧ n ≤ b))) ∧ w = w' := by
  by_cases h1 : a ≤ n
  · have R := Lib.hid (show decide (n ≤ b) = decide (a ≤ n ∧ n ≤ b) from decide_eq_decide.2 (by omega))
    go_enter Tryz.func128, Tryz.ntmps128
    go_wp2_with fail
    go_ret
    exact ⟨ret_bool R.out, rfl⟩
  · have g : decide (a ≤ n) = false := decide_eq_false h1
    have R := Lib.hid (show false = decide (a ≤ n ∧ n ≤ b) from (decide_eq_false (by omega)).symm)
    clear h1
    go_enter Tryz.func128, Tryz.ntmps128
    go_wp2_with fail
    go_ret
    exact ⟨ret_bool R.out, rfl⟩
theorem kprice_any (n : Int) (w : World) : Calls Tryz.prog 89 #[.int .i64 n] w fun e w' => e = .returned (.bool (decide (0 ≤ n ∧ n ≤ 1000000))) ∧ w = w' := by
  have M := Lib.hid (fun W => kft_any n 0 1000000 W)
  generalize decide (0 ≤ n ∧ n ≤ 1000000) = r at M ⊢
  go_enter Tryz.func89, Tryz.ntmps89
  go_wp2_with fail
  refine (M.out _).mono ?_
  rintro e w' ⟨rfl, rfl⟩
  go_wp2_with fail
  go_ret
  exact ⟨rfl, rfl⟩
theorem kdur_any (n : Int) (w : World) : Calls Tryz.prog 90 #[.int .i64 n] w fun e w' => e = .returned (.bool (decide (0 ≤ n ∧ n ≤ 86400))) ∧ w = w' := by
  have M := Lib.hid (fun W => kft_any n 0 86400 W)
  generalize decide (0 ≤ n ∧ n ≤ 86400) = r at M ⊢
  go_enter Tryz.func90, Tryz.ntmps90
  go_wp2_with fail
  refine (M.out _).mono ?_
  rintro e w' ⟨rfl, rfl⟩
  go_wp2_with fail
  go_ret
  exact ⟨rfl, rfl⟩
set_option maxRecDepth 100000 in
set_option maxHeartbeats 4000000 in
theorem kprod_any (id : List UInt8) (p r z t m : Int) (s : ByteArray) (hs : str id = s) (b : Nat) (ls : List (List UInt8)) (w : World) (hm : MapB w b ls) :
    Calls Tryz.prog 91 #[pdV s p r z t m, .map (some b)] w fun e w' => e = .returned (.int .i64 (badPd ls (id, p, r, z, t, m))) ∧ Below w.heap.size w w' := by
  have hid : s.data.toList = id := by rw [← hs]
  obtain ⟨w7, hw7⟩ : ∃ W, w.alloc (boxP s p r z t m) = W := ⟨_, rfl⟩
  obtain ⟨b7, p0, p1, p2, p3, p4, p5, -⟩ := box_pd hw7
  have V := Lib.hid (fun W => valid_all_any s W)
  rw [hid] at V
  have B7 := Lib.hid b7
  cases hv : validB id with
  | false =>
    have R := Lib.hid (badPd_name (seen := ls) (x := (id, p, r, z, t, m)) hv)
    rw [hv] at V
    clear hv b7 hm hid hs
    go_enter Tryz.func91, Tryz.ntmps91
    go_wp2_with fail
    refine (V.out _).mono ?_
    rintro e w' ⟨rfl, rfl⟩
    go_wp2_with fail
    go_ret
    exact ⟨ret_int R.out.symm, B7.out⟩
  | true =>
    have lk := (hm.below b7).look s id hid (by have := valid_small hs hv; omega)
    rw [hv] at V
    clear b7 hm hid hs
    by_cases hd : id ∈ ls
    · have R := Lib.hid (badPd_twice (x := (id, p, r, z, t, m)) hv hd)
      rw [decide_eq_true hd] at lk
      clear hv hd
      go_enter Tryz.func91, Tryz.ntmps91
      go_wp2_with fail
      refine (V.out _).mono ?_
      rintro e w' ⟨rfl, rfl⟩
      go_wp2_with fail
      go_ret
      exact ⟨ret_int R.out.symm, B7.out⟩
    · rw [decide_eq_false hd] at lk
      have C0 := Lib.hid (fun W => kprice_any p W)
      have C1 := Lib.hid (fun W => kdur_any t W)
      have C2 := Lib.hid (fun W => kft_any r 1 8 W)
      have C3 := Lib.hid (fun W => kft_any z 1 16 W)
      have C4 := Lib.hid (fun W => kft_any m 1 255 W)
      by_cases q0 : ¬ (0 ≤ p ∧ p ≤ 1000000)
      · have R := Lib.hid (badPd_range (x := (id, p, r, z, t, m)) hv hd (fun h => q0 (by unfold okPd at h; simp only at h; omega)))
        rw [decide_eq_false q0] at C0
        clear hv hd q0 
        go_enter Tryz.func91, Tryz.ntmps91
        go_wp2_with fail
        refine (V.out _).mono ?_
        rintro e w' ⟨rfl, rfl⟩
        go_wp2_with fail
        refine (C0.out _).mono ?_
        rintro e w' ⟨rfl, rfl⟩
        go_wp2_with fail
        go_ret
        exact ⟨ret_int R.out.symm, B7.out⟩
      have h0 := Decidable.not_not.1 q0
      clear q0
      by_cases q1 : ¬ (0 ≤ t ∧ t ≤ 86400)
      · have R := Lib.hid (badPd_range (x := (id, p, r, z, t, m)) hv hd (fun h => q1 (by unfold okPd at h; simp only at h; omega)))
        rw [decide_eq_true h0] at C0
        rw [decide_eq_false q1] at C1
        clear hv hd q1 h0
        go_enter Tryz.func91, Tryz.ntmps91
        go_wp2_with fail
        refine (V.out _).mono ?_
        rintro e w' ⟨rfl, rfl⟩
        go_wp2_with fail
        refine (C0.out _).mono ?_
        rintro e w' ⟨rfl, rfl⟩
        go_wp2_with fail
        refine (C1.out _).mono ?_
        rintro e w' ⟨rfl, rfl⟩
        go_wp2_with fail
        go_ret
        exact ⟨ret_int R.out.symm, B7.out⟩
      have h1 := Decidable.not_not.1 q1
      clear q1
      by_cases q2 : ¬ (1 ≤ r ∧ r ≤ 8)
      · have R := Lib.hid (badPd_range (x := (id, p, r, z, t, m)) hv hd (fun h => q2 (by unfold okPd at h; simp only at h; omega)))
        rw [decide_eq_true h0] at C0
        rw [decide_eq_true h1] at C1
        rw [decide_eq_false q2] at C2
        clear hv hd q2 h0 h1
        go_enter Tryz.func91, Tryz.ntmps91
        go_wp2_with fail
        refine (V.out _).mono ?_
        rintro e w' ⟨rfl, rfl⟩
        go_wp2_with fail
        refine (C0.out _).mono ?_
        rintro e w' ⟨rfl, rfl⟩
        go_wp2_with fail
        refine (C1.out _).mono ?_
        rintro e w' ⟨rfl, rfl⟩
        go_wp2_with fail
        refine (C2.out _).mono ?_
        rintro e w' ⟨rfl, rfl⟩
        go_wp2_with fail
        go_ret
        exact ⟨ret_int R.out.symm, B7.out⟩
      have h2 := Decidable.not_not.1 q2
      clear q2
      by_cases q3 : ¬ (1 ≤ z ∧ z ≤ 16)
      · have R := Lib.hid (badPd_range (x := (id, p, r, z, t, m)) hv hd (fun h => q3 (by unfold okPd at h; simp only at h; omega)))
        rw [decide_eq_true h0] at C0
        rw [decide_eq_true h1] at C1
        rw [decide_eq_true h2] at C2
        rw [decide_eq_false q3] at C3
        clear hv hd q3 h0 h1 h2
        go_enter Tryz.func91, Tryz.ntmps91
        go_wp2_with fail
        refine (V.out _).mono ?_
        rintro e w' ⟨rfl, rfl⟩
        go_wp2_with fail
        refine (C0.out _).mono ?_
        rintro e w' ⟨rfl, rfl⟩
        go_wp2_with fail
        refine (C1.out _).mono ?_
        rintro e w' ⟨rfl, rfl⟩
        go_wp2_with fail
        refine (C2.out _).mono ?_
        rintro e w' ⟨rfl, rfl⟩
        go_wp2_with fail
        refine (C3.out _).mono ?_
        rintro e w' ⟨rfl, rfl⟩
        go_wp2_with fail
        go_ret
        exact ⟨ret_int R.out.symm, B7.out⟩
      have h3 := Decidable.not_not.1 q3
      clear q3
      by_cases q4 : ¬ (1 ≤ m ∧ m ≤ 255)
      · have R := Lib.hid (badPd_range (x := (id, p, r, z, t, m)) hv hd (fun h => q4 (by unfold okPd at h; simp only at h; omega)))
        rw [decide_eq_true h0] at C0
        rw [decide_eq_true h1] at C1
        rw [decide_eq_true h2] at C2
        rw [decide_eq_true h3] at C3
        rw [decide_eq_false q4] at C4
        clear hv hd q4 h0 h1 h2 h3
        go_enter Tryz.func91, Tryz.ntmps91
        go_wp2_with fail
        refine (V.out _).mono ?_
        rintro e w' ⟨rfl, rfl⟩
        go_wp2_with fail
        refine (C0.out _).mono ?_
        rintro e w' ⟨rfl, rfl⟩
        go_wp2_with fail
        refine (C1.out _).mono ?_
        rintro e w' ⟨rfl, rfl⟩
        go_wp2_with fail
        refine (C2.out _).mono ?_
        rintro e w' ⟨rfl, rfl⟩
        go_wp2_with fail
        refine (C3.out _).mono ?_
        rintro e w' ⟨rfl, rfl⟩
        go_wp2_with fail
        refine (C4.out _).mono ?_
        rintro e w' ⟨rfl, rfl⟩
        go_wp2_with fail
        go_ret
        exact ⟨ret_int R.out.symm, B7.out⟩
      have h4 := Decidable.not_not.1 q4
      clear q4
      have R := Lib.hid (badPd_none (x := (id, p, r, z, t, m)) hv hd (show okPd (id, p, r, z, t, m) from ⟨h0, h2, h3, h1, h4⟩))
      rw [decide_eq_true h0] at C0
      rw [decide_eq_true h1] at C1
      rw [decide_eq_true h2] at C2
      rw [decide_eq_true h3] at C3
      rw [decide_eq_true h4] at C4
      clear hv hd h0 h1 h2 h3 h4
      go_enter Tryz.func91, Tryz.ntmps91
      go_wp2_with fail
      refine (V.out _).mono ?_
      rintro e w' ⟨rfl, rfl⟩
      go_wp2_with fail
      refine (C0.out _).mono ?_
      rintro e w' ⟨rfl, rfl⟩
      go_wp2_with fail
      refine (C1.out _).mono ?_
      rintro e w' ⟨rfl, rfl⟩
      go_wp2_with fail
      refine (C2.out _).mono ?_
      rintro e w' ⟨rfl, rfl⟩
      go_wp2_with fail
      refine (C3.out _).mono ?_
      rintro e w' ⟨rfl, rfl⟩
      go_wp2_with fail
      refine (C4.out _).mono ?_
      rintro e w' ⟨rfl, rfl⟩
      go_wp2_with fail
      go_ret
      exact ⟨ret_int R.out.symm, B7.out⟩
set_option maxRecDepth 100000 in
set_option maxHeartbeats 4000000 in
theorem kcheck_any (v : Value) (l : List Pd) (d wi c : Int) (hl : l.length ≤ 9223372036854775807) (w : World) (h : LstPd w v l) : Calls Tryz.prog 60 #[faV v d wi c] w fun e w' => e = .returned (.tuple #[.int .i64 ((chkPd d wi c l).1), .int .i64 ((chkPd d wi c l).2)]) ∧ Below w.heap.size w w' := by
  obtain ⟨w7, hw7⟩ : ∃ W, w.alloc (boxFa v d wi c) = W := ⟨_, rfl⟩
  obtain ⟨b7, p0, p1, p2, p3, s7, -⟩ := box_fa hw7
  have H := Lib.hid (h.below b7)
  have B7 := Lib.hid b7
  obtain ⟨A, n, rfl, -, -, -⟩ := h
  clear b7
  have C0 := Lib.hid (fun W => kprice_any d W)
  have C1 := Lib.hid (fun W => kdur_any wi W)
  have C2 := Lib.hid (fun W => kprice_any c W)
  by_cases q0 : ¬ (0 ≤ d ∧ d ≤ 1000000)
  · have R := Lib.hid (chkPd_range (l := l) (fun h => q0 (by unfold okFa at h; omega) : ¬ okFa d wi c))
    rw [decide_eq_false q0] at C0
    generalize chkPd d wi c l = q at R ⊢
    clear q0  s7
    go_enter Tryz.func60, Tryz.ntmps60
    go_wp2_with fail
    refine (C0.out _).mono ?_
    rintro e w' ⟨rfl, rfl⟩
    go_wp2_with fail
    go_ret2
    exact ⟨ret_chk (by rw [R.out]) (by rw [R.out]), B7.out⟩
  have h0 := Decidable.not_not.1 q0
  clear q0
  by_cases q1 : ¬ (0 ≤ wi ∧ wi ≤ 86400)
  · have R := Lib.hid (chkPd_range (l := l) (fun h => q1 (by unfold okFa at h; omega) : ¬ okFa d wi c))
    rw [decide_eq_true h0] at C0
    rw [decide_eq_false q1] at C1
    generalize chkPd d wi c l = q at R ⊢
    clear q1 h0 s7
    go_enter Tryz.func60, Tryz.ntmps60
    go_wp2_with fail
    refine (C0.out _).mono ?_
    rintro e w' ⟨rfl, rfl⟩
    go_wp2_with fail
    refine (C1.out _).mono ?_
    rintro e w' ⟨rfl, rfl⟩
    go_wp2_with fail
    go_ret2
    exact ⟨ret_chk (by rw [R.out]) (by rw [R.out]), B7.out⟩
  have h1 := Decidable.not_not.1 q1
  clear q1
  by_cases q2 : ¬ (0 ≤ c ∧ c ≤ 1000000)
  · have R := Lib.hid (chkPd_range (l := l) (fun h => q2 (by unfold okFa at h; omega) : ¬ okFa d wi c))
    rw [decide_eq_true h0] at C0
    rw [decide_eq_true h1] at C1
    rw [decide_eq_false q2] at C2
    generalize chkPd d wi c l = q at R ⊢
    clear q2 h0 h1 s7
    go_enter Tryz.func60, Tryz.ntmps60
    go_wp2_with fail
    refine (C0.out _).mono ?_
    rintro e w' ⟨rfl, rfl⟩
    go_wp2_with fail
    refine (C1.out _).mono ?_
    rintro e w' ⟨rfl, rfl⟩
    go_wp2_with fail
    refine (C2.out _).mono ?_
    rintro e w' ⟨rfl, rfl⟩
    go_wp2_with fail
    go_ret2
    exact ⟨ret_chk (by rw [R.out]) (by rw [R.out]), B7.out⟩
  have h2 := Decidable.not_not.1 q2
  clear q2
  have ok : okFa d wi c := ⟨h0, h1, h2⟩
  rw [decide_eq_true h0] at C0
  rw [decide_eq_true h1] at C1
  rw [decide_eq_true h2] at C2
  clear h0 h1 h2
  by_cases h16 : 16 < l.length
  · have R := Lib.hid (chkPd_many ok h16)
    have g : (16 : Int) < (l.length : Int) := by omega
    generalize chkPd d wi c l = q at R ⊢
    clear h16 ok s7
    go_enter Tryz.func60, Tryz.ntmps60
    go_wp2_with fail
    refine (C0.out _).mono ?_
    rintro e w' ⟨rfl, rfl⟩
    go_wp2_with fail
    refine (C1.out _).mono ?_
    rintro e w' ⟨rfl, rfl⟩
    go_wp2_with fail
    refine (C2.out _).mono ?_
    rintro e w' ⟨rfl, rfl⟩
    go_wp2_with fail
    go_ret2
    exact ⟨ret_chk (by rw [R.out]) (by rw [R.out]), B7.out⟩
  have g : decide ((16 : Int) < (l.length : Int)) = false := by rw [decide_eq_false_iff_not]; omega
  have ST := Lib.hid (chkPd_start ok (show l.length ≤ 16 by omega))
  have h16' : l.length ≤ 16 := by omega
  have hmm := @run_makeMap Tryz.prog
  obtain ⟨q, hq⟩ : ∃ q, chkPd d wi c l = q := ⟨_, rfl⟩
  rw [hq]
  have HQ := Lib.hid hq
  have S7 := Lib.hid s7
  have pm := (((Below.refl w7.heap.size w7).alloc (Nat.le_refl _) (.map #[] 0)).cell (p := ⟨w.heap.size, 0, none⟩) s7).trans p0
  clear h16 hq ok s7
  go_enter Tryz.func60, Tryz.ntmps60
  go_wp2_with fail
  refine (C0.out _).mono ?_
  rintro e w' ⟨rfl, rfl⟩
  go_wp2_with fail
  refine (C1.out _).mono ?_
  rintro e w' ⟨rfl, rfl⟩
  go_wp2_with fail
  refine (C2.out _).mono ?_
  rintro e w' ⟨rfl, rfl⟩
  go_wp2_with fail
  go_loopw [32] (fun i wr => ∃ k : Nat, i = .int .i64 k ∧ k ≤ l.length ∧ Hid (chkPd d wi c l = fbF badPd idPd ((l.take k).map idPd) k (l.drop k)) ∧ Hid (MapB wr w7.heap.size ((l.take k).map idPd)) ∧ Hid (Below w7.heap.size w7 wr)) (fun i _ => l.length - (intOf i).toNat)
  case atStart => exact ⟨0, rfl, Nat.zero_le _, ST, Lib.hid (MapB.made w7), Lib.hid ((Below.refl _ _).alloc (Nat.le_refl _) _)⟩
  case round =>
    clear g ST hmm
    obtain ⟨k, rfl, hk, hz, HM, HB⟩ := hrel
    clear C0 C1 C2
    by_cases hlt : k < l.length
    · obtain ⟨⟨id, p, r, z, t, m⟩, hx⟩ := at_lt hlt
      obtain ⟨nm, hnm⟩ : ∃ nm, str id = nm := ⟨_, rfl⟩
      obtain ⟨b, o, rfl, hb, r0, r1, r2, r3, r4, r5⟩ := six_at (H.out.below HB.out) hx hnm
      have gk : (k : Int) < (l.length : Int) := by omega
      obtain ⟨w8, hw8⟩ : ∃ W, wr.alloc (boxP nm p r z t m) = W := ⟨_, rfl⟩
      obtain ⟨b8, x0, x1, x2, x3, x4, x5, s8⟩ := box_pd hw8
      have B8 : Hid (Below w7.heap.size w7 w8) := HB.out.trans (b8.mono HB.out.size)
      have M8 := Lib.hid (HM.out.below b8)
      have C := Lib.hid (kprod_any id p r z t m nm hnm w7.heap.size ((l.take k).map idPd) w8 M8.out)
      by_cases he : badPd ((l.take k).map idPd) (id, p, r, z, t, m) = 0
      · have N := Lib.hid (fb_next hz.out hx he)
        have T := Lib.hid (key_take (key := idPd) hx)
        have hil : ((l.take k).map idPd).length ≤ 16 := by rw [List.length_map, List.length_take]; omega
        have hid : Hid (nm.data.toList = id) := by show _ = _; rw [← hnm]
        have hsz := valid_small hnm (badPd_valid he)
        rw [he] at C
        simp only [idPd] at T
        clear hx hz HB HM b8 hnm hb he
        go_wp2_with fail
        refine C.out.mono ?_
        rintro e w9 ⟨rfl, b9⟩
        have q0 := (b9.cell (p := ⟨wr.heap.size, 0, none⟩) s8).trans x0
        have B9 : Hid (Below w7.heap.size w7 w9) := B8.out.trans (b9.mono B8.out.size)
        have M9 := Lib.hid (M8.out.below b9)
        clear b9 x0 x1 x2 x3 x4 x5 B8 M8 C
        go_wp2_with (at_mapUpdate; refine put_bool _ rfl _ _ _ rfl w7.heap.size ((l.take k).map idPd) rfl M9.out nm id hid.out (by omega) rfl rfl (by omega) ?_; intro w10 m10 g10)
        have M : Hid (MapB w10 w7.heap.size ((l.take (k + 1)).map idPd)) := by
          show MapB _ _ _
          rw [T.out]
          exact m10
        have B : Hid (Below w7.heap.size w7 w10) := B9.out.grown g10 B9.out.size (fun j hj => by cases hj; exact Nat.le_refl _)
        clear m10 g10 M9 B9
        go_wp2_with fail
        go_roundw
        case rel => exact ⟨k + 1, by go_num, by omega, N, M, B⟩
        case measure => simp [intOf]; omega
      · have R := Lib.hid (fb_stop hz.out hx rfl he)
        have ne := bne_true he
        generalize badPd ((l.take k).map idPd) (id, p, r, z, t, m) = y at C R ne
        clear hx hz HB HM b8 hnm hb he
        go_wp2_with fail
        refine C.out.mono ?_
        rintro e w9 ⟨rfl, b9⟩
        have B9 : Hid (Below w7.heap.size w7 w9) := B8.out.trans (b9.mono B8.out.size)
        clear b9 B8 C x0 x1 x2 x3 x4 x5
        go_wp2_with fail
        go_ret2
        exact ⟨ret_chk (by rw [← HQ.out, R.out]) (by rw [← HQ.out, R.out]), B7.out.trans (B9.out.mono B7.out.size)⟩
    · have R := Lib.hid (fb_done hz.out (by omega))
      have d : decide (k < l.length) = false := by rw [decide_eq_false_iff_not]; exact hlt
      clear hz hlt HM
      go_wp2_with fail
      go_ret2
      exact ⟨ret_chk (by rw [← HQ.out, R.out]) (by rw [← HQ.out, R.out]), B7.out.trans (HB.out.mono B7.out.size)⟩
end Go.Proofs.YtkhalnjgbdpfhaaGreat.S21
namespace Go.Proofs.YtkhalnjgbdpfhaaGreat.S21
set_option maxRecDepth 100000
open Go.RowKit

set_option maxRecDepth 100000 in
set_option maxHeartbeats 4000000 in
theorem rin_any (n a b : Int) (w : World) : Calls Tryz.prog 105 #[.int .i64 n, .int .i64 a, .int .i64 b] w fun e w' => e = .returned (.bool (decide (a ≤ n ∧ n ≤ b))) ∧ w = w' := by
  by_cases h1 : a ≤ n
  · have R := Lib.hid (show decide (n ≤ b) = decide (a ≤ n ∧ n ≤ b) from decide_eq_decide.2 (by omega))
    go_enter Tryz.func105, Tryz.ntmps105
    go_wp2_with fail
    go_ret
    exact ⟨ret_bool R.out, rfl⟩
  · have g : decide (a ≤ n) = false := decide_eq_false h1
    have R := Lib.hid (show false = decide (a ≤ n ∧ n ≤ b) from (decide_eq_false (by omega)).symm)
    clear h1
    go_enter Tryz.func105, Tryz.ntmps105
    go_wp2_with fail
    go_ret
    exact ⟨ret_bool R.out, rfl⟩
set_option maxRecDepth 100000 in
set_option maxHeartbeats 4000000 in
theorem rright_any (id : List UInt8) (s : ByteArray) (p r z t m : Int) (w : World) : Calls Tryz.prog 106 #[pdV s p r z t m] w fun e w' => e = .returned (.bool (decide (okPd (id, p, r, z, t, m)))) ∧ Below w.heap.size w w' := by
  obtain ⟨w7, hw7⟩ : ∃ W, w.alloc (boxP s p r z t m) = W := ⟨_, rfl⟩
  obtain ⟨b7, p0, p1, p2, p3, p4, p5, -⟩ := box_pd hw7
  have B7 := Lib.hid b7
  clear b7
  have C0 := Lib.hid (fun W => rin_any p 0 1000000 W)
  have C1 := Lib.hid (fun W => rin_any r 1 8 W)
  have C2 := Lib.hid (fun W => rin_any z 1 16 W)
  have C3 := Lib.hid (fun W => rin_any t 0 86400 W)
  have C4 := Lib.hid (fun W => rin_any m 1 255 W)
  by_cases q0 : ¬ (0 ≤ p ∧ p ≤ 1000000)
  · have R := Lib.hid (show decide (okPd (id, p, r, z, t, m)) = false from decide_eq_false (fun h => q0 (by unfold okPd at h; simp only at h; omega)))
    rw [decide_eq_false q0] at C0
    clear q0 
    go_enter Tryz.func106, Tryz.ntmps106
    go_wp2_with fail
    refine (C0.out _).mono ?_
    rintro e w' ⟨rfl, rfl⟩
    go_wp2_with fail
    go_ret
    exact ⟨ret_bool R.out.symm, B7.out⟩
  have h0 := Decidable.not_not.1 q0
  clear q0
  by_cases q1 : ¬ (1 ≤ r ∧ r ≤ 8)
  · have R := Lib.hid (show decide (okPd (id, p, r, z, t, m)) = false from decide_eq_false (fun h => q1 (by unfold okPd at h; simp only at h; omega)))
    rw [decide_eq_true h0] at C0
    rw [decide_eq_false q1] at C1
    clear q1 h0
    go_enter Tryz.func106, Tryz.ntmps106
    go_wp2_with fail
    refine (C0.out _).mono ?_
    rintro e w' ⟨rfl, rfl⟩
    go_wp2_with fail
    refine (C1.out _).mono ?_
    rintro e w' ⟨rfl, rfl⟩
    go_wp2_with fail
    go_ret
    exact ⟨ret_bool R.out.symm, B7.out⟩
  have h1 := Decidable.not_not.1 q1
  clear q1
  by_cases q2 : ¬ (1 ≤ z ∧ z ≤ 16)
  · have R := Lib.hid (show decide (okPd (id, p, r, z, t, m)) = false from decide_eq_false (fun h => q2 (by unfold okPd at h; simp only at h; omega)))
    rw [decide_eq_true h0] at C0
    rw [decide_eq_true h1] at C1
    rw [decide_eq_false q2] at C2
    clear q2 h0 h1
    go_enter Tryz.func106, Tryz.ntmps106
    go_wp2_with fail
    refine (C0.out _).mono ?_
    rintro e w' ⟨rfl, rfl⟩
    go_wp2_with fail
    refine (C1.out _).mono ?_
    rintro e w' ⟨rfl, rfl⟩
    go_wp2_with fail
    refine (C2.out _).mono ?_
    rintro e w' ⟨rfl, rfl⟩
    go_wp2_with fail
    go_ret
    exact ⟨ret_bool R.out.symm, B7.out⟩
  have h2 := Decidable.not_not.1 q2
  clear q2
  by_cases q3 : ¬ (0 ≤ t ∧ t ≤ 86400)
  · have R := Lib.hid (show decide (okPd (id, p, r, z, t, m)) = false from decide_eq_false (fun h => q3 (by unfold okPd at h; simp only at h; omega)))
    rw [decide_eq_true h0] at C0
    rw [decide_eq_true h1] at C1
    rw [decide_eq_true h2] at C2
    rw [decide_eq_false q3] at C3
    clear q3 h0 h1 h2
    go_enter Tryz.func106, Tryz.ntmps106
    go_wp2_with fail
    refine (C0.out _).mono ?_
    rintro e w' ⟨rfl, rfl⟩
    go_wp2_with fail
    refine (C1.out _).mono ?_
    rintro e w' ⟨rfl, rfl⟩
    go_wp2_with fail
    refine (C2.out _).mono ?_
    rintro e w' ⟨rfl, rfl⟩
    go_wp2_with fail
    refine (C3.out _).mono ?_
    rintro e w' ⟨rfl, rfl⟩
    go_wp2_with fail
    go_ret
    exact ⟨ret_bool R.out.symm, B7.out⟩
  have h3 := Decidable.not_not.1 q3
  clear q3
  have R := Lib.hid (show decide (1 ≤ m ∧ m ≤ 255) = decide (okPd (id, p, r, z, t, m)) from decide_eq_decide.2 (by unfold okPd; simp only; omega))
  rw [decide_eq_true h0] at C0
  rw [decide_eq_true h1] at C1
  rw [decide_eq_true h2] at C2
  rw [decide_eq_true h3] at C3
  generalize decide (1 ≤ m ∧ m ≤ 255) = y at C4 R
  clear h0 h1 h2 h3
  go_enter Tryz.func106, Tryz.ntmps106
  go_wp2_with fail
  refine (C0.out _).mono ?_
  rintro e w' ⟨rfl, rfl⟩
  go_wp2_with fail
  refine (C1.out _).mono ?_
  rintro e w' ⟨rfl, rfl⟩
  go_wp2_with fail
  refine (C2.out _).mono ?_
  rintro e w' ⟨rfl, rfl⟩
  go_wp2_with fail
  refine (C3.out _).mono ?_
  rintro e w' ⟨rfl, rfl⟩
  go_wp2_with fail
  refine (C4.out _).mono ?_
  rintro e w' ⟨rfl, rfl⟩
  go_wp2_with fail
  go_ret
  exact ⟨ret_bool R.out, B7.out⟩
set_option maxRecDepth 100000 in
set_option maxHeartbeats 4000000 in
theorem rcheck_any (v : Value) (l : List Pd) (d wi c : Int) (hl : l.length ≤ 9223372036854775807) (w : World) (h : LstPd w v l) : Calls Tryz.prog 70 #[faV v d wi c] w fun e w' => e = .returned (.tuple #[.int .i64 ((chkPd d wi c l).1), .int .i64 ((chkPd d wi c l).2)]) ∧ Below w.heap.size w w' := by
  obtain ⟨w7, hw7⟩ : ∃ W, w.alloc (boxFa v d wi c) = W := ⟨_, rfl⟩
  obtain ⟨b7, p0, p1, p2, p3, s7, -⟩ := box_fa hw7
  have H := Lib.hid (h.below b7)
  have B7 := Lib.hid b7
  obtain ⟨A, n, rfl, -, -, -⟩ := h
  clear b7
  have C0 := Lib.hid (fun W => rin_any d 0 1000000 W)
  have C1 := Lib.hid (fun W => rin_any wi 0 86400 W)
  have C2 := Lib.hid (fun W => rin_any c 0 1000000 W)
  by_cases q0 : ¬ (0 ≤ d ∧ d ≤ 1000000)
  · have R := Lib.hid (chkPd_range (l := l) (fun h => q0 (by unfold okFa at h; omega) : ¬ okFa d wi c))
    rw [decide_eq_false q0] at C0
    generalize chkPd d wi c l = q at R ⊢
    clear q0  s7
    go_enter Tryz.func70, Tryz.ntmps70
    go_wp2_with fail
    refine (C0.out _).mono ?_
    rintro e w' ⟨rfl, rfl⟩
    go_wp2_with fail
    go_ret2
    exact ⟨ret_chk (by rw [R.out]) (by rw [R.out]), B7.out⟩
  have h0 := Decidable.not_not.1 q0
  clear q0
  by_cases q1 : ¬ (0 ≤ wi ∧ wi ≤ 86400)
  · have R := Lib.hid (chkPd_range (l := l) (fun h => q1 (by unfold okFa at h; omega) : ¬ okFa d wi c))
    rw [decide_eq_true h0] at C0
    rw [decide_eq_false q1] at C1
    generalize chkPd d wi c l = q at R ⊢
    clear q1 h0 s7
    go_enter Tryz.func70, Tryz.ntmps70
    go_wp2_with fail
    refine (C0.out _).mono ?_
    rintro e w' ⟨rfl, rfl⟩
    go_wp2_with fail
    refine (C1.out _).mono ?_
    rintro e w' ⟨rfl, rfl⟩
    go_wp2_with fail
    go_ret2
    exact ⟨ret_chk (by rw [R.out]) (by rw [R.out]), B7.out⟩
  have h1 := Decidable.not_not.1 q1
  clear q1
  by_cases q2 : ¬ (0 ≤ c ∧ c ≤ 1000000)
  · have R := Lib.hid (chkPd_range (l := l) (fun h => q2 (by unfold okFa at h; omega) : ¬ okFa d wi c))
    rw [decide_eq_true h0] at C0
    rw [decide_eq_true h1] at C1
    rw [decide_eq_false q2] at C2
    generalize chkPd d wi c l = q at R ⊢
    clear q2 h0 h1 s7
    go_enter Tryz.func70, Tryz.ntmps70
    go_wp2_with fail
    refine (C0.out _).mono ?_
    rintro e w' ⟨rfl, rfl⟩
    go_wp2_with fail
    refine (C1.out _).mono ?_
    rintro e w' ⟨rfl, rfl⟩
    go_wp2_with fail
    refine (C2.out _).mono ?_
    rintro e w' ⟨rfl, rfl⟩
    go_wp2_with fail
    go_ret2
    exact ⟨ret_chk (by rw [R.out]) (by rw [R.out]), B7.out⟩
  have h2 := Decidable.not_not.1 q2
  clear q2
  have ok : okFa d wi c := ⟨h0, h1, h2⟩
  rw [decide_eq_true h0] at C0
  rw [decide_eq_true h1] at C1
  rw [decide_eq_true h2] at C2
  clear h0 h1 h2
  by_cases h16 : 16 < l.length
  · have R := Lib.hid (chkPd_many ok h16)
    have g : (16 : Int) < (l.length : Int) := by omega
    generalize chkPd d wi c l = q at R ⊢
    clear h16 ok s7
    go_enter Tryz.func70, Tryz.ntmps70
    go_wp2_with fail
    refine (C0.out _).mono ?_
    rintro e w' ⟨rfl, rfl⟩
    go_wp2_with fail
    refine (C1.out _).mono ?_
    rintro e w' ⟨rfl, rfl⟩
    go_wp2_with fail
    refine (C2.out _).mono ?_
    rintro e w' ⟨rfl, rfl⟩
    go_wp2_with fail
    go_ret2
    exact ⟨ret_chk (by rw [R.out]) (by rw [R.out]), B7.out⟩
  have g : decide ((16 : Int) < (l.length : Int)) = false := by rw [decide_eq_false_iff_not]; omega
  have ST := Lib.hid (chkPd_start ok (show l.length ≤ 16 by omega))
  have h16' : l.length ≤ 16 := by omega
  obtain ⟨q, hq⟩ : ∃ q, chkPd d wi c l = q := ⟨_, rfl⟩
  rw [hq]
  rw [hq] at ST
  clear h16 hq ok s7
  go_enter Tryz.func70, Tryz.ntmps70
  go_wp2_with fail
  refine (C0.out _).mono ?_
  rintro e w' ⟨rfl, rfl⟩
  go_wp2_with fail
  refine (C1.out _).mono ?_
  rintro e w' ⟨rfl, rfl⟩
  go_wp2_with fail
  refine (C2.out _).mono ?_
  rintro e w' ⟨rfl, rfl⟩
  go_wp2_with fail
  go_loopw [5] (fun i wr => ∃ k : Nat, i = .int .i64 k ∧ k ≤ l.length ∧ Hid (q = fbF badPd idPd ((l.take k).map idPd) k (l.drop k)) ∧ Hid (Below w7.heap.size w7 wr)) (fun i _ => l.length - (intOf i).toNat)
  case atStart => exact ⟨0, rfl, Nat.zero_le _, ST, Lib.hid (Below.refl _ _)⟩
  case round =>
    clear g ST C0 C1 C2
    obtain ⟨k, rfl, hk, hz, HB⟩ := hrel
    by_cases hlt : k < l.length
    · obtain ⟨⟨id, p, r, z, t, m⟩, hx⟩ := at_lt hlt
      obtain ⟨nm, hnm⟩ : ∃ nm, str id = nm := ⟨_, rfl⟩
      obtain ⟨b, o, rfl, hb, r0, -⟩ := six_at (H.out.below HB.out) hx hnm
      have gk : (k : Int) < (l.length : Int) := by omega
      have hid : nm.data.toList = id := by rw [← hnm]
      have V := Lib.hid (fun W => rname_all_any nm W)
      rw [hid] at V
      cases hv : validB id with
      | false =>
        have R := Lib.hid (fb_stop hz.out hx (badPd_name (seen := (l.take k).map idPd) (x := (id, p, r, z, t, m)) hv) (by decide))
        rw [hv] at V
        clear hx hz hnm hb hid hv
        go_wp2_with fail
        refine (V.out _).mono ?_
        rintro e w' ⟨rfl, rfl⟩
        go_wp2_with fail
        go_ret2
        exact ⟨ret_chk (by rw [R.out]) (by rw [R.out]), B7.out.trans (HB.out.mono B7.out.size)⟩
      | true =>
        rw [hv] at V
        have HX := Lib.hid hx
        have HNM := Lib.hid hnm
        have HV := Lib.hid hv
        clear hx hid hv hnm hb
        go_wp2_with fail
        refine (V.out _).mono ?_
        rintro e w' ⟨rfl, rfl⟩
        clear V r0
        go_wp2_with fail
        go_loopw [6] (fun i wr => ∃ j : Nat, i = .int .i64 j ∧ j ≤ k ∧ Hid (∀ (t' : Nat) (x : Pd), t' < j → l[t']? = some x → idPd x ≠ id) ∧ Hid (Below w7.heap.size w7 wr)) (fun i _ => k - (intOf i).toNat)
        case atStart => exact ⟨0, rfl, Nat.zero_le _, Lib.hid (fun t' x ht => absurd ht (Nat.not_lt_zero _)), HB⟩
        case round =>
          clear HB
          obtain ⟨j, rfl, hj, hall, HB⟩ := hrel
          by_cases hjk : j < k
          · obtain ⟨⟨id2, a2, c2, d2, e2, f2⟩, hy⟩ := at_lt (show j < l.length by omega)
            obtain ⟨nm2, hnm2⟩ : ∃ nm, str id2 = nm := ⟨_, rfl⟩
            obtain ⟨b1, o1, e1, hb1, r0, -⟩ := six_at (H.out.below HB.out) HX.out HNM.out
            obtain ⟨b2, o2, e2, hb2, s0, -⟩ := six_at (H.out.below HB.out) hy hnm2
            cases e1
            cases e2
            have gj : (j : Int) < (l.length : Int) := by omega
            have gj2 : (j : Int) < (k : Int) := by omega
            by_cases hid : id2 = id
            · have R := Lib.hid (fb_stop hz.out HX.out (badPd_twice (seen := (l.take k).map idPd) (x := (id, p, r, z, t, m)) HV.out (keys_hit hjk hy hid)) (by decide))
              have eb := bytes_eq (show nm2 = nm by rw [← hnm2, ← HNM.out, hid])
              clear hz hy hnm2 hb1 hb2 hid hall HX HNM HV
              go_wp2_with fail
              go_quiet (fail)
              go_wp2_with fail
              go_ret2
              exact ⟨ret_chk (by rw [R.out]) (by rw [R.out]), B7.out.trans ((below_drewN HB.out nq).mono B7.out.size)⟩
            · have N : Hid (∀ (t' : Nat) (x : Pd), t' < j + 1 → l[t']? = some x → idPd x ≠ id) := by
                intro t' x ht hx
                by_cases e : t' = j
                · subst e
                  rw [hy] at hx
                  obtain rfl := Option.some.inj hx
                  exact hid
                · exact hall.out t' x (by omega) hx
              have eb := bytes_ne (str_ne hnm2 HNM.out hid)
              clear hy hnm2 hb1 hb2 hid hall
              go_wp2_with fail
              go_quiet (fail)
              have HN := Lib.hid (below_drewN HB.out nq)
              go_wp2_with fail
              go_roundw
              case rel => exact ⟨j + 1, by go_num, by omega, N, HN⟩
              case measure => simp [intOf]; omega
          · have dj : decide (j < k) = false := by rw [decide_eq_false_iff_not]; exact hjk
            have NM : id ∉ (l.take k).map idPd := keys_none fun t' x ht hx => hall.out t' x (by omega) hx
            obtain ⟨b1, o1, e1, hb1, r0, r1, r2, r3, r4, r5⟩ := six_at (H.out.below HB.out) HX.out HNM.out
            cases e1
            have RF := Lib.hid (fun hf => fb_stop hz.out HX.out (badPd_range (x := (id, p, r, z, t, m)) HV.out NM hf) (by decide))
            have RN := Lib.hid (fun hf => fb_next hz.out HX.out (badPd_none (x := (id, p, r, z, t, m)) HV.out NM hf))
            have M := Lib.hid (rright_any id nm p r z t m wr)
            clear hz hall NM hjk HX HNM HV hb1
            by_cases h1 : okPd (id, p, r, z, t, m)
            · have N := Lib.hid (RN.out h1)
              rw [decide_eq_true h1] at M
              clear RF RN h1
              go_wp2_with fail
              refine M.out.mono ?_
              rintro e w8 ⟨rfl, b8⟩
              have B8 : Hid (Below w7.heap.size w7 w8) := HB.out.trans (b8.mono HB.out.size)
              clear b8 M HB
              go_wp2_with fail
              go_roundw
              case rel => exact ⟨k + 1, by go_num, by omega, N, B8⟩
              case measure => simp [intOf]; omega
            · have R := Lib.hid (RF.out h1)
              rw [decide_eq_false h1] at M
              clear RF RN h1
              go_wp2_with fail
              refine M.out.mono ?_
              rintro e w8 ⟨rfl, b8⟩
              have B8 : Hid (Below w7.heap.size w7 w8) := HB.out.trans (b8.mono HB.out.size)
              clear b8 M HB
              go_wp2_with fail
              go_ret2
              exact ⟨ret_chk (by rw [R.out]) (by rw [R.out]), B7.out.trans (B8.out.mono B7.out.size)⟩
    · have R := Lib.hid (fb_done hz.out (by omega))
      have d : decide (k < l.length) = false := by rw [decide_eq_false_iff_not]; exact hlt
      clear hz hlt
      go_wp2_with fail
      go_ret2
      exact ⟨ret_chk (by rw [R.out]) (by rw [R.out]), B7.out.trans (HB.out.mono B7.out.size)⟩
end Go.Proofs.YtkhalnjgbdpfhaaGreat.S21
namespace Go.Proofs.YtkhalnjgbdpfhaaGreat.S21
set_option maxRecDepth 100000
open Go.RowKit Go.ChangeShapes Go.WideShapes Go.Deep

instance : Inhabited Pd := ⟨([], 0, 0, 0, 0, 0)⟩
instance : Inhabited Ri := ⟨(0, 0, 0, 0)⟩
theorem trod_struct6 {H : Type} {enc : TypeId × Value → H} {P : Program} {w : World} {base : Nat} {spare : Nat → Bool} {held : Bool} {t : TypeId} {f0 f1 f2 f3 f4 f5 : Field} {fuel : Nat} {cs : List Value} {x : DataW H × List MemPlace} (ht : P.underlying t = some (.struct #[f0, f1, f2, f3, f4, f5])) (h : DataW.trod enc P w base spare held fuel t cs = some x) :
    ∃ y0 y1 y2 y3 y4 y5 n, cs.length = P.cellsOf t ∧ DataW.trod enc P w base spare held n f0.type ((cs.drop f0.offset).take (P.cellsOf f0.type)) = some y0 ∧
      DataW.trod enc P w base spare held n f1.type ((cs.drop f1.offset).take (P.cellsOf f1.type)) = some y1 ∧ DataW.trod enc P w base spare held n f2.type ((cs.drop f2.offset).take (P.cellsOf f2.type)) = some y2 ∧
      DataW.trod enc P w base spare held n f3.type ((cs.drop f3.offset).take (P.cellsOf f3.type)) = some y3 ∧ DataW.trod enc P w base spare held n f4.type ((cs.drop f4.offset).take (P.cellsOf f4.type)) = some y4 ∧
      DataW.trod enc P w base spare held n f5.type ((cs.drop f5.offset).take (P.cellsOf f5.type)) = some y5 := by
  obtain ⟨xs, n, _, rfl, hl, hlen, hf⟩ := DataW.trod_struct ht h
  match xs, hlen with
  | [y0, y1, y2, y3, y4, y5], _ => exact ⟨y0, y1, y2, y3, y4, y5, n, hl, by simpa using hf 0 f0 rfl, by simpa using hf 1 f1 rfl, by simpa using hf 2 f2 rfl, by simpa using hf 3 f3 rfl, by simpa using hf 4 f4 rfl, by simpa using hf 5 f5 rfl⟩
/-- What is known of a product, a ride that came in: its ints have 64 bits. -/
def OkPd1 (x : Pd) : Prop := Ix64 x.2.2.1 ∧ Ix64 x.2.2.2.1 ∧ Ix64 x.2.2.2.2.1
theorem trod_prod {H : Type} {enc : TypeId × Value → H} {W : World} {n : Nat} {cs : List Value} {x : DataW H × List MemPlace} (h : DataW.trod enc Tryz.prog W 0 (fun _ => true) true n 87 cs = some x) : ∃ a : Pd, OkPd1 a ∧ cs = pdE a := by
  obtain ⟨y0, y1, y2, y3, y4, y5, n, hl, h0, h1, h2, h3, h4, h5⟩ := trod_struct6 Tryz.underlying87 h
  rw [show Tryz.prog.cellsOf 87 = 6 by kernel_rfl] at hl
  match cs, hl with
  | [c0, c1, c2, c3, c4, c5], _ =>
    simp only [show Tryz.prog.cellsOf 9 = 1 by kernel_rfl, show Tryz.prog.cellsOf 3 = 1 by kernel_rfl] at h0 h1 h2 h3 h4 h5
    obtain ⟨s, e0, -⟩ := DataW.trod_string Tryz.underlying9 h0
    obtain ⟨p, e1, -⟩ := DataW.trod_int Tryz.underlying3 h1
    obtain ⟨r, e2, _, w2⟩ := DataW.trod_int Tryz.underlying3 h2
    obtain ⟨z, e3, _, w3⟩ := DataW.trod_int Tryz.underlying3 h3
    obtain ⟨t, e4, _, w4⟩ := DataW.trod_int Tryz.underlying3 h4
    obtain ⟨m, e5, -⟩ := DataW.trod_int Tryz.underlying3 h5
    simp at e0 e1 e2 e3 e4 e5
    subst e0 e1 e2 e3 e4 e5
    refine ⟨(s.data.toList, p, r, z, t, m), ⟨⟨int_low w2, int_top w2⟩, ⟨int_low w3, int_top w3⟩, int_low w4, int_top w4⟩, ?_⟩
    unfold pdE
    rw [str_list]
section
variable {H : Type} {enc : TypeId × Value → H} {W : World} {base : Nat} {v : Value} {d : DataW H} {ps : List MemPlace}
end
end Go.Proofs.YtkhalnjgbdpfhaaGreat.S21
