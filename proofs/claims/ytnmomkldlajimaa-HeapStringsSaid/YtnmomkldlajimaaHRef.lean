/-
  The reference's functions on lists of pairs: First, Without, Sort, Same, Find, Permuted. Condition: keys are ints; at most 10^6 elements.
-/
import Derived.Test.YtnmomkldlajimaaHSort
import Derived.Test.YtnmomkldlajimaaHSel
namespace Go.Proofs.Ytnmomkldlajimaa
open Go.RowKit

def lessM (m : Int) : Pr → Pr → Bool := if m = 0 then lUp else if m = 1 then lDown else if m = 2 then lRest else if m = 3 then lAll else lNot
def fnM (m : Int) : Value := if m = 0 then .func (.func 29) #[] #[] else if m = 1 then .func (.func 30) #[] #[] else if m = 2 then .func (.func 31) #[] #[] else if m = 3 then .func (.func 32) #[] #[] else .func (.func 33) #[] #[]
theorem fun_mode (m : Int) : Fun (fnM m) (lessM m) := by
  unfold fnM lessM
  by_cases h0 : m = 0
  · rw [if_pos h0, if_pos h0]; exact fun_up
  rw [if_neg h0, if_neg h0]
  by_cases h1 : m = 1
  · rw [if_pos h1, if_pos h1]; exact fun_down
  rw [if_neg h1, if_neg h1]
  by_cases h2 : m = 2
  · rw [if_pos h2, if_pos h2]; exact fun_rest
  rw [if_neg h2, if_neg h2]
  by_cases h3 : m = 3
  · rw [if_pos h3, if_pos h3]; exact fun_all
  rw [if_neg h3, if_neg h3]
  exact fun_not
theorem three {m : Int} (h0 : 0 ≤ m) (h2 : m ≤ 2) : m = 0 ∨ m = 1 ∨ m = 2 := by omega
theorem ord_mode {m : Int} (h0 : 0 ≤ m) (h2 : m ≤ 2) : IsOrd (lessM m) := by
  rcases three h0 h2 with rfl | rfl | rfl
  · exact up_ord
  · exact down_ord
  · exact rest_ord
theorem less_mode {m : Int} (h0 : 0 ≤ m) (h2 : m ≤ 2) (a b : Pr) (ha : Ok2 a) (hb : Ok2 b) (w : World) : Calls Try.prog 23 #[.int .i64 m, .agg #[.int .i64 a.1, .int .i64 a.2], .agg #[.int .i64 b.1, .int .i64 b.2]] w fun e w' => e = .returned (.bool (lessM m a b)) ∧ Below w.heap.size w w' := by
  rcases three h0 h2 with rfl | rfl | rfl
  · exact less_up a b w
  · exact less_down a b w
  · exact less_rest a b ha hb w
theorem ok_at {l : List Pr} (hk : ∀ a ∈ l, Ok2 a) {i : Nat} {a : Pr} (h : l[i]? = some a) : Ok2 a := hk a (List.mem_iff_getElem?.2 ⟨i, h⟩)
set_option maxRecDepth 100000 in
set_option maxHeartbeats 4000000 in
theorem first_any {m : Int} (h0 : 0 ≤ m) (h2 : m ≤ 2) (v : Value) (l : List Pr) (hk : ∀ a ∈ l, Ok2 a) (h1 : 0 < l.length) (hl : l.length ≤ 1000000) (w : World) (h : LstP w v l) :
    Calls Try.prog 12 #[.int .i64 m, v] w fun e w' => e = .returned (.int .i64 ((firstI (lessM m) l : Nat) : Int)) ∧ Below w.heap.size w w' := by
  have OR := Lib.hid (ord_mode h0 h2)
  have L := Lib.hid (fun a b ha hb W => less_mode h0 h2 a b ha hb W)
  have hh := h
  obtain ⟨A, c, rfl, -⟩ := hh
  have H := Lib.hid h
  have HK := Lib.hid hk
  clear h hk h0 h2
  go_enter Try.func12, Try.ntmps12
  go_wp2_with fail
  go_loopw [5, 6] (fun ub u wr => ∃ (k b : Nat), ub = .int .i64 (b : Int) ∧ u = .int .i64 (k : Int) ∧ 1 ≤ k ∧ k ≤ l.length ∧ b < k ∧ Hid (IsFirst (lessM m) (l.take k) b) ∧ Hid (Below w.heap.size w wr)) (fun _ u _ => l.length - (intOf u).toNat)
  case atStart =>
    refine ⟨1, 0, rfl, rfl, Nat.le_refl _, h1, by omega, ?_, Lib.hid (Below.refl _ _)⟩
    obtain ⟨x, hx⟩ := at_lt h1
    rw [take_one l 0 x hx]
    exact first_one OR.out x
  case round =>
    obtain ⟨k, b, rfl, rfl, hk1, hk, hbk, HF, HB⟩ := hrel
    by_cases hlt : k < l.length
    · obtain ⟨x, hx⟩ := at_lt hlt
      obtain ⟨y, hy⟩ := at_lt (l := l) (k := b) (by omega)
      obtain ⟨bb, o, c', hv, hb, x0, x1⟩ := LstG.pair H.out hx
      obtain ⟨bb', o', c'', hv', hb', y0, y1⟩ := LstG.pair H.out hy
      cases hv
      cases hv'
      rw [← HB.out.cell (p := ⟨bb, _, none⟩) hb] at x0 x1 y0 y1
      have C := Lib.hid (fun W => L.out x y (ok_at HK.out hx) (ok_at HK.out hy) W)
      have S := first_step OR.out hx hy hbk HF.out
      have gk : (k : Int) < (l.length : Int) := by omega
      have gb : (b : Int) < (l.length : Int) := by omega
      clear hx hy HF
      cases hc : lessM m x y with
      | true =>
        rw [hc] at C S
        rw [if_pos rfl] at S
        have SS := Lib.hid S
        clear S hc
        go_wp2_with fail
        go_still_tail 9, (by kernel_rfl)
        change wpList _ _ _ _ _ wr.drew
        go_wp2_with fail
        refine (rel (W := w) (C.out _) HB.out.drew).mono ?_
        rintro e w1 ⟨rfl, b1⟩
        have B1 := Lib.hid b1
        clear b1 x0 x1 y0 y1 C HB
        go_wp2_with fail
        go_roundw
        case rel => exact ⟨k + 1, k, rfl, by go_num, by omega, by omega, by omega, SS, B1⟩
        case measure => simp [intOf]; omega
      | false =>
        rw [hc] at C S
        rw [if_neg (by simp)] at S
        have SS := Lib.hid S
        clear S hc
        go_wp2_with fail
        go_still_tail 9, (by kernel_rfl)
        change wpList _ _ _ _ _ wr.drew
        go_wp2_with fail
        refine (rel (W := w) (C.out _) HB.out.drew).mono ?_
        rintro e w1 ⟨rfl, b1⟩
        have B1 := Lib.hid b1
        clear b1 x0 x1 y0 y1 C HB
        go_wp2_with fail
        go_roundw
        case rel => exact ⟨k + 1, b, rfl, by go_num, by omega, by omega, by omega, SS, B1⟩
        case measure => simp [intOf]; omega
    · have hkl : k = l.length := by omega
      subst hkl
      rw [List.take_length] at HF
      have E := Lib.hid (first_uniq HF.out (firstI_is OR.out h1))
      have d : decide (l.length < l.length) = false := by simp
      clear HF
      go_wp2_with fail
      go_ret
      exact ⟨ret_int (by rw [E.out]), HB.out⟩
theorem OwnP.at_nil (w : World) (b : Nat) : OwnP w b (.slice none 0 0) ([] : List Pr) := OwnG.nil _ _ _ _ _
set_option maxRecDepth 100000 in
set_option maxHeartbeats 4000000 in
theorem without_any (v : Value) (l : List Pr) (i : Nat) (hl : l.length ≤ 1000000) (w : World) (h : LstP w v l) :
    Calls Try.prog 15 #[v, .int .i64 (i : Int)] w fun e w' => ∃ v', e = .returned v' ∧ OwnP w' w.heap.size v' (l.eraseIdx i) ∧ Below w.heap.size w w' := by
  have hh := h
  obtain ⟨A, c, rfl, -⟩ := hh
  have H := Lib.hid h
  clear h
  go_enter Try.func15, Try.ntmps15
  go_wp2_with fail
  go_loopw [5, 6] (fun uo u wr => ∃ (k : Nat), u = .int .i64 (k : Int) ∧ k ≤ l.length ∧ Hid (OwnP wr w.heap.size uo ((l.take k).eraseIdx i)) ∧ Hid (Below w.heap.size w wr)) (fun _ u _ => l.length - (intOf u).toNat)
  case atStart => exact ⟨0, rfl, Nat.zero_le _, by rw [List.take_zero, List.eraseIdx_nil]; exact Lib.hid (OwnP.at_nil w _), Lib.hid (Below.refl _ _)⟩
  case round =>
    obtain ⟨k, rfl, hk, HO, HB⟩ := hrel
    by_cases hlt : k < l.length
    · obtain ⟨x, hx⟩ := at_lt hlt
      have E := Lib.hid (erase_take l i k x hx)
      have gk : (k : Int) < (l.length : Int) := by omega
      by_cases hki : k = i
      · have q : ((k : Int) != (i : Int)) = false := neq_false (by omega)
        have O1 : Hid (OwnP wr w.heap.size u5 ((l.take (k + 1)).eraseIdx i)) := by rw [E.out, if_pos hki]; exact HO.out
        clear hx HO E hki
        go_wp2_with fail
        go_roundw
        case rel => exact ⟨k + 1, by go_num, by omega, O1, HB⟩
        case measure => simp [intOf]; omega
      · have q : ((k : Int) != (i : Int)) = true := bne_true (by omega)
        obtain ⟨b, o, c', hv, hb, x0, x1⟩ := LstG.pair H.out hx
        cases hv
        rw [← HB.out.cell (p := ⟨b, _, none⟩) hb] at x0 x1
        have hsz : ((l.take k).eraseIdx i).length ≤ 1000000 := Nat.le_trans (List.length_eraseIdx_le _ _) (by rw [List.length_take]; omega)
        obtain ⟨A2, c2, hu, -⟩ := ownK_shape HO.out
        obtain ⟨z, hz⟩ : ∃ z, (l.take k).eraseIdx i = z := ⟨_, rfl⟩
        rw [hz] at hsz hu HO E
        subst hu
        have hBs := HB.out.size
        clear hx hz
        go_wp2_with (at_builtin; refine appG_one pc_len pc_one (by decide) Try.underlying26 info_pr rfl (by decide) _ rfl (.tmp 16) (.tmp 21) rfl w.heap.size _ z x rfl (World.ownsRow.alloc HO.out _) wr.heap.size _ (heap_alloc_new _ _) rfl rfl (by simp; omega) (by omega) ?_)
        intro v1 w2 own1 b2 _ _
        have O1 : Hid (OwnP w2 w.heap.size v1 ((l.take (k + 1)).eraseIdx i)) := by rw [E.out, if_neg hki]; exact own1
        have B1 : Hid (Below w.heap.size w w2) := (HB.out.alloc HB.out.size _).trans b2
        clear own1 b2 x0 x1 HO HB E hki
        go_wp2_with fail
        go_roundw
        case rel => exact ⟨k + 1, by go_num, by omega, O1, B1⟩
        case measure => simp [intOf]; omega
    · have hkl : k = l.length := by omega
      subst hkl
      rw [List.take_length] at HO
      have d : decide (l.length < l.length) = false := by simp
      go_wp2_with fail
      go_ret
      exact ⟨_, rfl, HO.out, HB.out⟩
/-- The value reads as these pairs, in no block that out owns. -/
def Off (v out : Value) : Prop := ∀ b o n c g, v = .slice (some ⟨b, o, none⟩) n c → out.ownBlock = some g → b ≠ g
theorem LstG.grown {α : Type} {enc : α → List Value} {w w' : World} {v out : Value} {l : List α} (h : LstG enc w v l) (hoff : Off v out) (hg : w.grownBy w' out.ownBlock) : LstG enc w' v l := by
  obtain ⟨A, c, hv, hc, hn, hx⟩ := h
  refine ⟨A, c, hv, hc, hn, fun h0 => ?_⟩
  obtain ⟨b, o, hA, hbl, hcell⟩ := hx h0
  subst hA
  refine ⟨b, o, rfl, Nat.lt_of_lt_of_le hbl hg.size, fun j x hj => ?_⟩
  exact (World.cell?_of_block (w := w) (a := ⟨b, o + j, none⟩) (hg.block b hbl fun e => hoff b o _ _ b hv e.symm rfl)).trans (hcell j x hj)
set_option maxRecDepth 100000 in
set_option maxHeartbeats 4000000 in
theorem rsort_any {m : Int} (h0 : 0 ≤ m) (h2 : m ≤ 2) (v : Value) (l : List Pr) (hk : ∀ a ∈ l, Ok2 a) (hl : l.length ≤ 1000000) (w : World) (h : LstP w v l) :
    Calls Try.prog 19 #[.int .i64 m, v] w fun e w' => ∃ v', e = .returned v' ∧ OwnP w' w.heap.size v' (selR (lessM m) l) ∧ Below w.heap.size w w' := by
  have FI := Lib.hid (fun v l hk h1 hl W h => first_any h0 h2 v l hk h1 hl W h)
  have OR := Lib.hid (ord_mode h0 h2)
  have HV : Hid (LstP w v l) := h
  have HK := Lib.hid hk
  clear h hk h0 h2
  go_enter Try.func19, Try.ntmps19
  go_wp2_with fail
  go_loopw [1, 5] (fun u1 u5 wr => ∃ (rest acc : List Pr), Hid (LstP wr u1 rest) ∧ Hid (OwnP wr w.heap.size u5 acc) ∧ Hid (Off u1 u5) ∧ Hid (selR (lessM m) l = acc ++ selR (lessM m) rest) ∧ Hid (∀ a ∈ rest, Ok2 a) ∧ acc.length + rest.length ≤ l.length ∧ Hid (Below w.heap.size w wr)) (fun u1 _ _ => lenV u1)
  case atStart => exact ⟨l, [], HV, Lib.hid (OwnP.at_nil w _), fun _ _ _ _ _ _ hg => (by cases hg), Lib.hid rfl, HK, by simp, Lib.hid (Below.refl _ _)⟩
  case round =>
    obtain ⟨rest, acc, HL, HO, HF, HE, HKK, hlen, HB⟩ := hrel
    obtain ⟨A, c, hu, -⟩ := HL.out
    subst hu
    by_cases hlt : 0 < rest.length
    · have hfi := firstI_is OR.out hlt
      obtain ⟨x, hx⟩ := at_lt (l := rest) (k := firstI (lessM m) rest) hfi.lt
      have E := Lib.hid (selR_some (lessM m) hx)
      have C := Lib.hid (FI.out _ rest HKK.out hlt (by omega) wr HL.out)
      have hil := hfi.lt
      have HX := Lib.hid hx
      obtain ⟨i, hi⟩ : ∃ i, firstI (lessM m) rest = i := ⟨_, rfl⟩
      rw [hi] at C E HX hil
      have gi : (i : Int) < (rest.length : Int) := by omega
      have g0 : (0 : Int) < (rest.length : Int) := by omega
      have hBs := HB.out.size
      clear hfi hx hi
      go_wp2_with fail
      refine C.out.mono ?_
      rintro e w1 ⟨rfl, b1⟩
      have L1 := Lib.hid (HL.out.below b1)
      have O1 := Lib.hid (OwnG.below HO.out b1)
      have B1 : Hid (Below w.heap.size w w1) := HB.out.trans (b1.mono HB.out.size)
      obtain ⟨b, o, c', hv, hb, x0, x1⟩ := LstG.pair L1.out HX.out
      cases hv
      obtain ⟨A2, c2, hu, -⟩ := ownK_shape HO.out
      subst hu
      have hBs1 := B1.out.size
      clear b1 HL HO HB C
      go_wp2_with (at_builtin; refine appG_one pc_len pc_one (by decide) Try.underlying26 info_pr rfl (by decide) _ rfl (.tmp 13) (.tmp 18) rfl w.heap.size _ acc x rfl (World.ownsRow.alloc O1.out _) w1.heap.size _ (heap_alloc_new _ _) rfl rfl (by simp; omega) (by omega) ?_)
      intro v1 w2 own1 b2 g2 _
      have g2' : World.grownBy _ w2 (Value.slice A2 acc.length c2).ownBlock := g2
      have L2 := Lib.hid ((L1.out.below ((Below.refl _ _).alloc (Nat.le_refl _) _)).grown HF.out g2')
      have O2 := Lib.hid own1
      have B2 : Hid (Below w.heap.size w w2) := (B1.out.alloc B1.out.size _).trans b2
      clear g2 g2' own1 b2 x0 x1 L1 O1 B1 HF
      go_wp2_with fail
      refine (without_any _ rest i (by omega) w2 L2.out).mono ?_
      rintro e w3 ⟨v3, rfl, o3, b3⟩
      have R : Hid (LstP w3 v3 (rest.eraseIdx i) ∧ OwnP w3 w.heap.size v1 (acc ++ [x]) ∧ Off v3 v1 ∧ selR (lessM m) l = (acc ++ [x]) ++ selR (lessM m) (rest.eraseIdx i) ∧ (∀ a ∈ rest.eraseIdx i, Ok2 a) ∧ (acc ++ [x]).length + (rest.eraseIdx i).length ≤ l.length ∧ Below w.heap.size w w3) := by
        refine ⟨OwnG.lst o3, OwnG.below O2.out b3, fun b o n c g hv hg => ?_, by rw [HE.out, E.out, List.append_assoc]; rfl, fun a ha => HKK.out a (List.mem_of_mem_eraseIdx ha), ?_, B2.out.trans (b3.mono B2.out.size)⟩
        · have h1 := (World.ownsRow.lt O2.out g hg).2
          have h2 := (World.ownsRow.lt o3 b (by rw [hv]; rfl)).1
          omega
        · rw [List.length_eraseIdx_of_lt hil]
          simp
          omega
      obtain ⟨A3, c3, hu3, -⟩ := ownK_shape o3
      have hl3 := List.length_eraseIdx_of_lt hil
      subst hu3
      rw [hl3] at R
      clear o3 b3 L2 O2 B2 HE E HX
      go_wp2_with fail
      go_roundw
      case rel => exact ⟨_, _, R.out.1, R.out.2.1, R.out.2.2.1, R.out.2.2.2.1, R.out.2.2.2.2.1, by rw [hl3]; exact R.out.2.2.2.2.2.1, R.out.2.2.2.2.2.2⟩
      case measure => simp [lenV]; omega
    · have hr0 : rest = [] := List.length_eq_zero_iff.1 (by omega)
      subst hr0
      have R : Hid (OwnP wr w.heap.size u5 (selR (lessM m) l)) := by rw [HE.out, selR_nil, List.append_nil]; exact HO.out
      clear HL HO HE HF
      simp only [List.length_nil]
      go_wp2_with fail
      go_ret
      exact ⟨_, rfl, R.out, HB.out⟩
end Go.Proofs.Ytnmomkldlajimaa
