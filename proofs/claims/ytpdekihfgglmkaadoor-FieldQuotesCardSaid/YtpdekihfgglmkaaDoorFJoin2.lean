/-
  Join of package field and of its reference: what each call answers; nothing that existed before the call has changed behind it. Condition: strings of at most 2^14 bytes each.
-/
import Derived.Test.YtpdekihfgglmkaaDoorFJoin
namespace Go.Proofs.YtpdekihfgglmkaaDoor
open Go.RowKit

/-- What Join answers: the line and the number of the error. -/
def joinR (l : List (List UInt8)) : List UInt8 × Int := if 64 < l.length then ([], 5) else if 65536 < (lineL l).length then ([], 5) else (lineL l, 0)
theorem cells_mid {w : World} {B : Nat} {cs : Array Value} {t : TypeId} (h : w.heap[B]? = some (.cells cs t (0, 0))) (j : Nat) (x : Value) (hx : cs[j]? = some x) : w.cell? ⟨B, j, none⟩ = some x := by rw [cell_of_row w B j cs t (0, 0) h, hx]
set_option maxHeartbeats 2000000 in
theorem fjoin_any (v : Value) (l : List (List UInt8)) (hn : l.length ≤ 140737488355327) (hx : ∀ x ∈ l, x.length ≤ 16384) (w : World) (h : Lst w v l) : Calls Tryd.prog 19 #[v] w fun e w' => e = .returned (.tuple #[.string (str (joinR l).1), .int .i64 (joinR l).2]) ∧ Below w.heap.size w w' := by
  obtain ⟨A, c, rfl, _, hcl⟩ := h
  by_cases h64 : 64 < l.length
  · have R := Lib.hid (show joinR l = ([], 5) by unfold joinR; rw [if_pos h64])
    have g : (64 : Int) < (l.length : Int) := by omega
    clear hcl h64 hx
    go_enter Tryd.func19, Tryd.ntmps19
    go_wp2_with fail
    go_ret2
    exact ⟨ret_unq (by rw [R.out]) (by rw [R.out]), Below.refl _ _⟩
  have g : decide ((64 : Int) < (l.length : Int)) = false := by simp; omega
  have R := Lib.hid (show joinR l = if 65536 < (lineL l).length then ([], 5) else (lineL l, 0) by unfold joinR; rw [if_neg h64])
  have HC := Lib.hid hcl
  have HX := Lib.hid hx
  have hl64 : l.length ≤ 64 := by omega
  have hline := line_le 16384 l hx
  have hmk := fun w => run_make_row' (P := Tryd.prog) 30 9 (.string ByteArray.empty) 16 Tryd.underlying30 info_str rfl .i64 .i64 l.length (by omega) (by omega) w
  have HL := Lib.hid hline
  clear hcl h64 hx hline
  go_enter Tryd.func19, Tryd.ntmps19
  go_wp2_with fail
  clear hmk
  go_loopw [16] (fun i wr => ∃ k : Nat, i = .int .i64 k ∧ k ≤ l.length ∧ Hid (wr.heap[w.heap.size]? = some (.cells (Lib.cellsOf ((l.take k).map fun x => str (quoteL x)) l.length) 9 (0, 0))) ∧ Below w.heap.size w wr) (fun i _ => l.length - (intOf i).toNat)
  case atStart =>
    refine ⟨0, rfl, Nat.zero_le _, ?_, (Below.refl _ _).alloc (Nat.le_refl _) _⟩
    show _ = _
    rw [List.take_zero, List.map_nil, Lib.cellsOf_nil]
    exact heap_alloc_new w _
  case round =>
    obtain ⟨k, rfl, hk, hblk, hb⟩ := hrel
    have hbs := hb.size
    by_cases hlt : k < l.length
    · obtain ⟨b, o, rfl, hbl, hcell⟩ := HC.out (by omega)
      obtain ⟨x, hxk⟩ := at_lt hlt
      have hxl := HX.out x (List.mem_iff_getElem?.2 ⟨k, hxk⟩)
      have m1 := (hb.cell (p := ⟨b, o + k, none⟩) hbl).trans (hcell k _ (sts_at l k x hxk))
      obtain ⟨s, hs, hsz, hst⟩ := as_str x
      rw [hst] at m1
      have Q := Lib.hid (fun w => fquote_any s (by omega) w)
      rw [hs] at Q
      have g6 : decide ((65536 : Int) < (s.size : Int)) = false := by simp; omega
      have gk : (k : Int) < (l.length : Int) := by omega
      have hdl : ((l.take k).map fun x => str (quoteL x)).length = k := by rw [List.length_map, List.length_take]; omega
      have hnx := Lib.cellsOf_next (done := (l.take k).map fun x => str (quoteL x)) (N := l.length) (by rw [hdl]; exact hlt)
      have hset := Lib.cellsOf_set (done := (l.take k).map fun x => str (quoteL x)) (N := l.length) (by rw [hdl]; exact hlt) (str (quoteL x))
      rw [hdl] at hnx hset
      have hst2 : ((l.take k).map fun x => str (quoteL x)) ++ [str (quoteL x)] = (l.take (k + 1)).map fun x => str (quoteL x) := by rw [take_at l k x hxk, List.map_append]; rfl
      rw [hst2] at hset
      have HS := Lib.hid hset
      have HN := Lib.hid hnx
      have HB := Lib.hid hb
      generalize str (quoteL x) = q at Q HS
      clear hcell hxk hs hsz hst hdl hnx hset hst2 hxl hb HC HX
      go_wp2_with (go_at_call 13; refine (Q.out _).mono ?_; rintro e w2 ⟨rfl, b2⟩; have hb2 := (b2.block w.heap.size (by have := (HB.out.trans (b2.mono hbs)).size; have h3 := (List.getElem?_eq_some_iff (l := wr.heap.toList)).1 (by rw [Array.getElem?_toList]; exact hblk.out); simpa using h3.1)).trans hblk.out; have c2 := cells_mid hb2 k _ HN.out; have f2 := frozen_of_row w2 w.heap.size k _ _ hb2; have HB2 := Lib.hid (HB.out.trans (b2.mono hbs)); have HK := Lib.hid hb2; clear b2 hb2)
      go_roundw
      case rel => exact ⟨k + 1, by go_num, by omega, (heap_setCell_same w2 w.heap.size k _ _ _ HK.out).trans (by rw [HS.out]), HB2.out.setCell (Nat.le_refl _) _⟩
      case measure => simp [intOf]; omega
    · have e0 : l.take k = l := List.take_of_length_le (by omega)
      rw [e0] at hblk
      have hmap : (l.map fun x => str (quoteL x)) = (l.map quoteL).map str := by rw [List.map_map]; rfl
      have hfull : (Lib.cellsOf (l.map fun x => str (quoteL x)) l.length).toList = sts (l.map quoteL) := by
        have := Lib.cellsOf_full (l.map fun x => str (quoteL x))
        rw [List.length_map] at this
        rw [this, hmap]
        simp
      have hJ := join_any [44] (l.map quoteL) (some ⟨w.heap.size, 0, none⟩) l.length wr (by rw [List.length_map]; exact Nat.le_refl _) (by rw [List.length_map]; omega) (by rw [line_join]; have := HL.out; omega) (fun h0 => ⟨w.heap.size, 0, rfl, by have h3 := (List.getElem?_eq_some_iff (l := wr.heap.toList)).1 (by rw [Array.getElem?_toList]; exact hblk.out); simpa using h3.1, fun j x hj => by rw [Nat.zero_add, cell_of_row wr w.heap.size j _ _ _ hblk.out, ← hj, ← hfull]; simp⟩)
      rw [line_join, List.length_map] at hJ
      obtain ⟨q, hq, hqz, hqs⟩ := as_str (lineL l)
      rw [hqs] at hJ
      have J := Lib.hid hJ
      have HB := Lib.hid hb
      have d : decide (k < l.length) = false := by rw [decide_eq_false_iff_not]; exact hlt
      by_cases h6 : 65536 < (lineL l).length
      · have R2 := Lib.hid (show joinR l = ([], 5) by rw [R.out, if_pos h6])
        have g6 : (65536 : Int) < (q.size : Int) := by omega
        clear hJ hb hfull hmap hblk e0 hq hqz hqs h6 HC hlt R
        go_wp2_with (go_at_call 28; refine J.out.mono ?_; rintro e w2 ⟨rfl, b2⟩; have HB2 := Lib.hid (HB.out.trans (b2.mono hbs)); clear b2)
        go_ret2
        exact ⟨ret_unq (by rw [R2.out]) (by rw [R2.out]), HB2.out⟩
      · have R2 := Lib.hid (show joinR l = (lineL l, 0) by rw [R.out, if_neg h6])
        have g6 : decide ((65536 : Int) < (q.size : Int)) = false := by simp; omega
        have HQ := Lib.hid hqs
        clear hJ hb hfull hmap hblk e0 hq hqz hqs h6 HC hlt R
        go_wp2_with (go_at_call 28; refine J.out.mono ?_; rintro e w2 ⟨rfl, b2⟩; have HB2 := Lib.hid (HB.out.trans (b2.mono hbs)); clear b2)
        go_ret2
        exact ⟨ret_unq (by rw [R2.out]; exact HQ.out.symm) (by rw [R2.out]), HB2.out⟩
set_option maxHeartbeats 2000000 in
theorem rjoin_any (v : Value) (l : List (List UInt8)) (hn : l.length ≤ 140737488355327) (hx : ∀ x ∈ l, x.length ≤ 16384) (w : World) (h : Lst w v l) : Calls Tryd.prog 20 #[v] w fun e w' => e = .returned (.tuple #[.string (str (joinR l).1), .int .i64 (joinR l).2]) ∧ Below w.heap.size w w' := by
  obtain ⟨A, c, rfl, _, hcl⟩ := h
  by_cases h64 : 64 < l.length
  · have R := Lib.hid (show joinR l = ([], 5) by unfold joinR; rw [if_pos h64])
    have g : (64 : Int) < (l.length : Int) := by omega
    clear hcl h64 hx
    go_enter Tryd.func20, Tryd.ntmps20
    go_wp2_with fail
    go_ret2
    exact ⟨ret_unq (by rw [R.out]) (by rw [R.out]), Below.refl _ _⟩
  have g : decide ((64 : Int) < (l.length : Int)) = false := by simp; omega
  have R := Lib.hid (show joinR l = if 65536 < (lineL l).length then ([], 5) else (lineL l, 0) by unfold joinR; rw [if_neg h64])
  have HC := Lib.hid hcl
  have HX := Lib.hid hx
  have hl64 : l.length ≤ 64 := by omega
  have HT := Lib.hid (fun k => line_le 16384 (l.take k) (fun x hm => hx x (List.mem_of_mem_take hm)))
  clear hcl h64 hx
  go_enter Tryd.func20, Tryd.ntmps20
  go_wp2_with fail
  go_loopw [4, 5] (fun u i wr => ∃ k : Nat, i = .int .i64 k ∧ k ≤ l.length ∧ OwnB wr w.heap.size u (lineL (l.take k)) ∧ Below w.heap.size w wr) (fun _ i _ => l.length - (intOf i).toNat)
  case atStart => exact ⟨0, rfl, Nat.zero_le _, OwnB.nil _ _, Below.refl _ _⟩
  case round =>
    clear g
    obtain ⟨k, rfl, hk, hown, hb⟩ := hrel
    have hbs := hb.size
    have hll := HT.out k
    have hlk : (l.take k).length ≤ 64 := by rw [List.length_take]; omega
    have hll2 : (lineL (l.take k)).length ≤ 64 * 65539 := Nat.le_trans hll (Nat.mul_le_mul_right _ hlk)
    by_cases hlt : k < l.length
    · obtain ⟨b, o, rfl, hbl, hcell⟩ := HC.out (by omega)
      obtain ⟨x, hxk⟩ := at_lt hlt
      have hxl := HX.out x (List.mem_iff_getElem?.2 ⟨k, hxk⟩)
      have m1 := (hb.cell (p := ⟨b, o + k, none⟩) hbl).trans (hcell k _ (sts_at l k x hxk))
      obtain ⟨s, hs, hsz, hst⟩ := as_str x
      rw [hst] at m1
      have Q := Lib.hid (fun w => rquote_any s (by omega) w)
      rw [hs] at Q
      have hqx := quote_le x
      obtain ⟨q, hq, hqz, hqs⟩ := as_str (quoteL x)
      rw [hqs] at Q
      have hq16 : q.size ≤ 65538 := by omega
      have gk : (k : Int) < (l.length : Int) := by omega
      have hT := line_take l k x hxk
      have HO := Lib.hid hown
      have HB := Lib.hid hb
      by_cases h0 : k = 0
      · rw [if_pos h0] at hT
        have h0' : decide ((0 : Int) < (k : Int)) = false := by simp; omega
        have h0n : decide (0 < k) = false := by rw [decide_eq_false_iff_not]; omega
        have T := Lib.hid (show lineL (l.take (k + 1)) = lineL (l.take k) ++ q.data.toList by rw [hT, hq, h0]; rfl)
        clear hT hcell hxk hs hsz hst hxl hb hown HC HX hq hqs h0 hll hqz hqx
        go_wp2_with (first | (go_at_call 14; refine (Q.out _).mono ?_; rintro e w2 ⟨rfl, b2⟩; obtain ⟨o2, B2⟩ := own_put HB.out HO.out b2; have O2 := Lib.hid o2; have BB2 := Lib.hid B2; clear b2 o2 B2) | (at_builtin; refine app_string w2 rfl _ _ rfl w.heap.size _ _ q rfl O2.out rfl BB2.out.size (by omega) ?_; intro v3 w3 own3 b3))
        go_roundw
        case rel => exact ⟨k + 1, by go_num, by omega, by rw [T.out]; exact own3, BB2.out.trans b3⟩
        case measure => simp [intOf]; omega
      · rw [if_neg h0] at hT
        have h0' : (0 : Int) < (k : Int) := by omega
        have h0n : 0 < k := by omega
        have T := Lib.hid (show lineL (l.take (k + 1)) = lineL (l.take k) ++ [44] ++ q.data.toList by rw [hT, hq]; simp)
        clear hT hcell hxk hs hsz hst hxl hb hown HC HX hq hqs h0 hll hqz hqx
        have m2 := m1
        go_wp2_with (first | (at_builtin; refine app_bytes _ rfl (.tmp 17) (.tmp 18) rfl w.heap.size _ _ [44] rfl (OwnB.alloc HO.out _) wr.heap.size _ (heap_alloc_new _ _) rfl rfl (by simp; omega) (by simp; omega) ?_; intro v1 w1 own1 b1; have m3 := ((HB.out.alloc hbs _).trans b1).cell (p := ⟨b, o + k, none⟩) hbl; have m4 := m3.trans ((HB.out.cell (p := ⟨b, o + k, none⟩) hbl).symm.trans m2); have HO1 := Lib.hid own1; have HB1 := Lib.hid ((HB.out.alloc hbs _).trans b1); clear own1 b1 m3) | (go_at_call 14; refine (Q.out _).mono ?_; rintro e w2 ⟨rfl, b2⟩; obtain ⟨o2, B2⟩ := own_put HB1.out HO1.out b2; have O2 := Lib.hid o2; have BB2 := Lib.hid B2; clear b2 o2 B2) | (at_builtin; refine app_string w2 rfl (.tmp 20) (.tmp 25) rfl w.heap.size _ _ q rfl O2.out rfl BB2.out.size (by simp; omega) ?_; intro v3 w3 own3 b3))
        go_roundw
        case rel => exact ⟨k + 1, by go_num, by omega, by rw [T.out]; exact own3, BB2.out.trans b3⟩
        case measure => simp [intOf]; omega
    · have e0 : l.take k = l := List.take_of_length_le (by omega)
      rw [e0] at hown
      obtain ⟨A2, c2, rfl⟩ := own_shape' hown
      have cv := own_conv hown
      have HB := Lib.hid hb
      have d : decide (k < l.length) = false := by rw [decide_eq_false_iff_not]; exact hlt
      by_cases h6 : 65536 < (lineL l).length
      · have R2 := Lib.hid (show joinR l = ([], 5) by rw [R.out, if_pos h6])
        have g6 : (65536 : Int) < ((lineL l).length : Int) := by omega
        clear hown e0 hb h6 HC hlt R hll hll2 cv
        go_wp2_with fail
        go_ret2
        exact ⟨ret_unq (by rw [R2.out]) (by rw [R2.out]), HB.out⟩
      · have R2 := Lib.hid (show joinR l = (lineL l, 0) by rw [R.out, if_neg h6])
        have g6 : decide ((65536 : Int) < ((lineL l).length : Int)) = false := by simp; omega
        clear hown e0 hb h6 HC hlt R hll hll2
        go_wp2_with fail
        go_ret2
        exact ⟨ret_unq (by rw [R2.out]) (by rw [R2.out]), HB.out⟩
end Go.Proofs.YtpdekihfgglmkaaDoor
