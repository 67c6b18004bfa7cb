/-
  Lines of package field and of its reference: what each call answers; nothing that existed before the call has changed behind it. Condition: a text of at most 2^31 bytes.
-/
import Derived.Test.YtpdekihfgglmkaaDoorFJoin2
import Derived.Lib.SplitLaws
import Derived.Lib.IndexBytes
namespace Go.Proofs.YtpdekihfgglmkaaDoor
open Go.RowKit

/-! ### strings.Split at a separator of one byte -/
theorem genSplit_one (s : ByteArray) (c : UInt8) (hs : s.size < 4294967281) (w : World) :
    Calls Tryd.prog 47 #[.string s, .string ⟨#[c]⟩, .int .i64 0, .int .i64 (-1)] w fun e w' =>
      e = .returned (.slice (some ⟨w.heap.size, 0, none⟩) (Lib.countB s ⟨#[c]⟩ + 1) (Lib.countB s ⟨#[c]⟩ + 1)) ∧ w' = w.alloc (.cells ((Lib.splitB ⟨#[c]⟩ 0 (Lib.countB s ⟨#[c]⟩) s).map Value.string).toArray 9) := by
  have h1 : 1 ≤ (⟨#[c]⟩ : ByteArray).size := by show 1 ≤ #[c].size; simp
  have hle := Lib.countB_le ⟨#[c]⟩ h1 s.size s (Nat.le_refl _)
  have hlen := Lib.splitB_all ⟨#[c]⟩ h1 0 _ s rfl
  have k := Any.strings_genSplit_core Tryd.lays221 (by kernel_rfl) s ⟨#[c]⟩ 0 (-1) (Lib.countB s ⟨#[c]⟩ + 1) w hs h1 (Nat.zero_le _)
    (fun x cs _ => (Tryd.strings_Index_one x c _).mono fun e w' ⟨he, hw⟩ => ⟨by rw [he]; exact congrArg (fun z => Ending.returned (.int .i64 z)) (Lib.index_one x.data.toList c).symm, hw⟩)
    ((Tryd.strings_Count_one s c w).mono fun e w' ⟨he, hw⟩ => ⟨by rw [he]; exact congrArg (fun z : Nat => Ending.returned (.int .i64 (z : Int))) (Lib.count_one c s.data.toList).symm, hw⟩)
    (by decide) (by decide) (by rw [if_pos (by decide)]; omega)
  rw [Nat.add_sub_cancel, hlen] at k
  have e2 : Lib.cellsOf (Lib.splitB ⟨#[c]⟩ 0 (Lib.countB s ⟨#[c]⟩) s) (Lib.countB s ⟨#[c]⟩ + 1) = ((Lib.splitB ⟨#[c]⟩ 0 (Lib.countB s ⟨#[c]⟩) s).map Value.string).toArray := by rw [← hlen]; exact Lib.cellsOf_full _
  rw [e2] at k
  exact k
/-- The pieces of a string between the bytes c. -/
def pieces (c : UInt8) (l : List UInt8) : List (List UInt8) := Lib.splitK [c] 0 (Lib.count l [c]) l
theorem ssplit_any (s : ByteArray) (c : UInt8) (hs : s.size < 4294967281) (w : World) :
    Calls Tryd.prog 38 #[.string s, .string ⟨#[c]⟩] w fun e w' => ∃ v, e = .returned v ∧ OwnS w' w.heap.size v (pieces c s.data.toList) ∧ Below w.heap.size w w' := by
  have G := Lib.hid (genSplit_one s c hs w)
  have hown : Hid (OwnS (w.alloc (.cells ((Lib.splitB ⟨#[c]⟩ 0 (Lib.countB s ⟨#[c]⟩) s).map Value.string).toArray 9)) w.heap.size (.slice (some ⟨w.heap.size, 0, none⟩) (Lib.countB s ⟨#[c]⟩ + 1) (Lib.countB s ⟨#[c]⟩ + 1)) (pieces c s.data.toList)) := by
    have h1 : 1 ≤ (⟨#[c]⟩ : ByteArray).size := by show 1 ≤ #[c].size; simp
    have hlen := Lib.splitB_all ⟨#[c]⟩ h1 0 _ s rfl
    have hd := Lib.splitB_data ⟨#[c]⟩ 0 (Lib.countB s ⟨#[c]⟩) s
    have hle := Lib.countB_le ⟨#[c]⟩ h1 s.size s (Nat.le_refl _)
    have hp : pieces c s.data.toList = (Lib.splitB ⟨#[c]⟩ 0 (Lib.countB s ⟨#[c]⟩) s).map (·.data.toList) := by rw [hd]; rfl
    have hs1 : ((Lib.splitB ⟨#[c]⟩ 0 (Lib.countB s ⟨#[c]⟩) s).map Value.string) = sts (pieces c s.data.toList) := by
      rw [hp]
      unfold sts
      rw [List.map_map]
      apply List.map_congr_left
      intro x _
      simp only [Function.comp]
    have hpl : (pieces c s.data.toList).length = Lib.countB s ⟨#[c]⟩ + 1 := by rw [hp, List.length_map, hlen]
    have h := World.ownsRow_lit (base := w.heap.size) (e := 9) (size := 1) w ((Lib.splitB ⟨#[c]⟩ 0 (Lib.countB s ⟨#[c]⟩) s).map Value.string).toArray (Lib.countB s ⟨#[c]⟩ + 1) (Nat.le_refl _) (by unfold maxLen; omega) (by simp [hlen])
    show World.ownsRow _ _ _ _ _ _ _
    rw [hpl, ← hs1]
    exact h
  generalize Lib.countB s ⟨#[c]⟩ + 1 = N at G hown
  generalize ((Lib.splitB ⟨#[c]⟩ 0 (Lib.countB s ⟨#[c]⟩) s).map Value.string).toArray = cs at G hown
  go_enter Tryd.func38, Tryd.ntmps38
  go_wp2_with fail
  refine (G.out).mono ?_
  rintro e w1 ⟨rfl, rfl⟩
  go_wp2_with fail
  go_ret
  exact ⟨_, rfl, hown.out, (Below.refl _ _).alloc (Nat.le_refl _) _⟩

/-! ### Lines -/
/-- What Lines answers: the lines and the number of the error. -/
def linesR (l : List UInt8) : List (List UInt8) × Int := if 65536 < l.length then ([], 5) else if l = [] then ([], 0) else if l[l.length - 1]? = some 10 then ((cutL l).1, 0) else ([], 4)
theorem pieces_cut (l : List UInt8) : (cutL (l ++ [10])).1 = pieces 10 l := by rw [split_cut _ l rfl]; rfl
theorem last_snoc (l : List UInt8) (c : UInt8) (h : l[l.length - 1]? = some c) : ∃ q, l = q ++ [c] := by
  rcases List.eq_nil_or_concat l with rfl | ⟨q, b, rfl⟩
  · simp at h
  · rw [List.concat_eq_append] at *
    simp at h
    exact ⟨q, by rw [h]⟩
theorem flines_any (s : ByteArray) (hs : s.size ≤ 1099511627776) (w : World) : Calls Tryd.prog 23 #[.string s] w (Gives w (linesR s.data.toList)) := by
  have hz := sz_list s
  by_cases h5 : 65536 < s.size
  · have R := Lib.hid (show linesR s.data.toList = ([], 5) by unfold linesR; rw [hz, if_pos h5])
    have g : (65536 : Int) < (s.size : Int) := by omega
    clear h5 hz
    go_enter Tryd.func23, Tryd.ntmps23
    go_wp2_with fail
    go_ret2
    exact Gives.err R.out (Below.refl _ _)
  have g : decide ((65536 : Int) < (s.size : Int)) = false := by simp; omega
  by_cases h0 : s.size = 0
  · have hnil : s.data.toList = [] := List.length_eq_zero_iff.1 (by rw [hz]; exact h0)
    have R := Lib.hid (show linesR s.data.toList = ([], 0) by unfold linesR; rw [hz, if_neg h5, if_pos hnil])
    have he : s.toList.isEmpty = true := by rw [nil_iff]; simpa using h0
    clear h5 hz h0 hnil
    go_enter Tryd.func23, Tryd.ntmps23
    go_wp2_with fail
    go_ret2
    exact Gives.ok R.out (OwnS.nil _ _) (Below.refl _ _)
  have he : s.toList.isEmpty = false := by rw [nil_iff]; simpa using h0
  have hnn : s.data.toList ≠ [] := fun e => h0 (by rw [← hz, e]; rfl)
  by_cases hl : s.data.toList[s.size - 1]? = some 10
  · obtain ⟨q, hq⟩ := last_snoc s.data.toList 10 (by rw [hz]; exact hl)
    have hql : q.length + 1 = s.size := by rw [← hz, hq]; simp
    obtain ⟨b, hb, hbz, hbs⟩ := as_str q
    have R := Lib.hid (show linesR s.data.toList = (pieces 10 b.data.toList, 0) by unfold linesR; rw [hz, if_neg h5, if_neg hnn, if_pos hl, hq, hb, pieces_cut])
    have C := Lib.hid (fun w => suffix_hit 10 q (by rw [List.length_append, List.length_singleton]; omega) w)
    rw [← hq, str_list, hbs] at C
    have S := Lib.hid (fun w => ssplit_any b 10 (by omega) w)
    clear h5 hz h0 hnn hl hq hql hb hbz hbs
    go_enter Tryd.func23, Tryd.ntmps23
    go_wp2_with fail
    refine (C.out _).mono ?_
    rintro e w' ⟨rfl, rfl⟩
    go_wp2_with fail
    refine (S.out _).mono ?_
    rintro e w1 ⟨v, rfl, o1, b1⟩
    have O1 := Lib.hid o1
    clear o1
    go_wp2_with fail
    go_ret2
    exact Gives.ok R.out O1.out b1
  · have R := Lib.hid (show linesR s.data.toList = ([], 4) by unfold linesR; rw [hz, if_neg h5, if_neg hnn, if_neg hl])
    have C := Lib.hid (fun w => suffix_miss 10 s.data.toList (by
      cases hp : List.isSuffixOf [10] s.data.toList with
      | false => rfl
      | true =>
        rw [List.isSuffixOf_iff_suffix] at hp
        obtain ⟨t, ht⟩ := hp
        exact absurd (show s.data.toList[s.size - 1]? = some 10 by rw [← hz, ← ht]; simp) hl) (by rw [hz]; omega) w)
    rw [str_list] at C
    clear h5 hz h0 hnn hl
    go_enter Tryd.func23, Tryd.ntmps23
    go_wp2_with fail
    refine (C.out _).mono ?_
    rintro e w' ⟨rfl, rfl⟩
    go_wp2_with fail
    go_ret2
    exact Gives.err R.out (Below.refl _ _)
set_option maxHeartbeats 1000000 in
theorem rlines_any (s : ByteArray) (hs : s.size ≤ 1099511627776) (w : World) : Calls Tryd.prog 24 #[.string s] w (Gives w (linesR s.data.toList)) := by
  have hz := sz_list s
  by_cases h5 : 65536 < s.size
  · have R := Lib.hid (show linesR s.data.toList = ([], 5) by unfold linesR; rw [hz, if_pos h5])
    have g : (65536 : Int) < (s.size : Int) := by omega
    clear h5 hz
    go_enter Tryd.func24, Tryd.ntmps24
    go_wp2_with fail
    go_ret2
    exact Gives.err R.out (Below.refl _ _)
  have g : decide ((65536 : Int) < (s.size : Int)) = false := by simp; omega
  have hem := nil_iff s
  by_cases hbad : s.size ≠ 0 ∧ s.data.toList[s.size - 1]? ≠ some 10
  · obtain ⟨h0, hl⟩ := hbad
    have hnn : s.data.toList ≠ [] := fun e => h0 (by rw [← hz, e]; rfl)
    have he : s.toList.isEmpty = false := by rw [hem]; simpa using h0
    have R := Lib.hid (show linesR s.data.toList = ([], 4) by unfold linesR; rw [hz, if_neg h5, if_neg hnn, if_neg hl])
    obtain ⟨d, hd⟩ := get_at' s (s.size - 1) (by omega)
    have k1 := fun W => at_run s (s.size - 1) d hd ((s.size : Int) - 1) (by omega) W
    have q1 : ((d.toNat : Int) != 10) = true := byte_bne (d := 10) (fun e => hl (by rw [hd, e]))
    have g1 : 1 ≤ (s.size : Int) := by omega
    clear h5 hz h0 hnn hl hd hem
    go_enter Tryd.func24, Tryd.ntmps24
    go_wp2_with fail
    go_ret2
    exact Gives.err R.out (Below.refl _ _)
  have R := Lib.hid (show linesR s.data.toList = ((cutL s.data.toList).1, 0) by
    unfold linesR
    rw [hz, if_neg h5]
    by_cases h0 : s.data.toList = []
    · rw [if_pos h0, h0]; rfl
    · rw [if_neg h0, if_pos]
      refine Classical.byContradiction fun h => hbad ⟨fun e => h0 (List.length_eq_zero_iff.1 (by rw [hz]; exact e)), h⟩)
  have hways : s.toList.isEmpty = true ∨ (s.toList.isEmpty = false ∧ 1 ≤ (s.size : Int) ∧ ∀ W, (Instr.index 9 (.string s) (.int .i64 ((s.size : Int) - 1))).run Tryd.prog W = .ok (.int .u8 (10 : UInt8).toNat) W) := by
    by_cases h0 : s.size = 0
    · exact Or.inl (by rw [hem]; simpa using h0)
    · refine Or.inr ⟨by rw [hem]; simpa using h0, by omega, fun W => at_run s (s.size - 1) 10 (Classical.byContradiction fun h => hbad ⟨h0, h⟩) ((s.size : Int) - 1) (by omega) W⟩
  have q1 : (((10 : UInt8).toNat : Int) != 10) = false := rfl
  clear hem hbad h5
  rcases hways with he | ⟨he, g1, k1⟩
  all_goals
    go_enter Tryd.func24, Tryd.ntmps24
    go_wp2_with fail
    go_loopw [4, 5, 6] (fun v a i wr => ∃ (p k : Nat), a = .int .i64 p ∧ i = .int .i64 k ∧ p ≤ k ∧ k ≤ s.size ∧ OwnS wr w.heap.size v (cutL (s.data.toList.take k)).1 ∧ Hid ((cutL (s.data.toList.take k)).1.length ≤ k) ∧ Hid ((cutL (s.data.toList.take k)).2 = (s.data.toList.drop p).take (k - p)) ∧ Below w.heap.size w wr) (fun _ _ i _ => s.size - (intOf i).toNat)
    case atStart => exact ⟨0, 0, rfl, rfl, Nat.le_refl _, Nat.zero_le _, OwnS.nil _ _, Lib.hid (Nat.le_refl _), Lib.hid rfl, Below.refl _ _⟩
    case round =>
      clear g he q1
      obtain ⟨p, k, rfl, rfl, hpk, hks, hown, hcl, hc2, hb⟩ := hrel
      have hbs := hb.size
      by_cases hlt : k < s.size
      · obtain ⟨c, hc⟩ := get_at' s k hlt
        have k2 := fun W => at_run s k c hc k rfl W
        have HO := Lib.hid hown
        have HB := Lib.hid hb
        by_cases h10 : c = 10
        · subst h10
          have hT := cut_take s.data.toList k hc
          obtain ⟨t, ht, htz, hts⟩ := as_str ((s.data.toList.drop p).take (k - p))
          have k3 := fun W => sl_mid s t p k hpk hks ht.symm p k rfl rfl W
          have q2 : (((10 : UInt8).toNat : Int) == 10) = true := rfl
          have T1 := Lib.hid (show (cutL (s.data.toList.take (k + 1))).1 = (cutL (s.data.toList.take k)).1 ++ [t.data.toList] by rw [hT, hc2.out, ht])
          have T2 := Lib.hid (show (cutL (s.data.toList.take (k + 1))).2 = (s.data.toList.drop (k + 1)).take (k + 1 - (k + 1)) by rw [hT]; simp)
          have T3 := Lib.hid (show (cutL (s.data.toList.take (k + 1))).1.length ≤ k + 1 by rw [T1.out]; have := hcl.out; simp; omega)
          have hcl2 := hcl.out
          have hsl := str_list t
          have HTS := Lib.hid hsl
          have gp : (p : Int) ≤ (k : Int) := by omega
          have gk : (k : Int) ≤ (s.size : Int) := by omega
          clear hT ht htz hts hc hown hb hc2 hcl hsl
          go_wp2_with (at_builtin; refine app_one _ rfl _ _ rfl w.heap.size _ _ t.data.toList rfl (OwnS.alloc HO.out _) wr.heap.size _ (heap_alloc_new _ _) (by rw [HTS.out]) rfl (by simp; omega) (by omega) ?_; intro v1 w1 own1 b1)
          go_roundw
          case rel => exact ⟨k + 1, k + 1, by go_num, by go_num, by omega, by omega, by rw [T1.out]; exact own1, T3, T2, (HB.out.alloc hbs _).trans b1⟩
          case measure => simp [intOf]; omega
        · have hT := cut_take' s.data.toList k c hc h10
          have q2 : ((c.toNat : Int) == 10) = false := byte_neq (d := 10) h10
          have T1 := Lib.hid (show (cutL (s.data.toList.take (k + 1))).1 = (cutL (s.data.toList.take k)).1 by rw [hT])
          have T2 := Lib.hid (show (cutL (s.data.toList.take (k + 1))).2 = (s.data.toList.drop p).take (k + 1 - p) by
            rw [hT, hc2.out, show k + 1 - p = (k - p) + 1 by omega]
            exact (take_at _ (k - p) c (by rw [List.getElem?_drop, show p + (k - p) = k by omega]; exact hc)).symm)
          have T3 := Lib.hid (show (cutL (s.data.toList.take (k + 1))).1.length ≤ k + 1 by rw [T1.out]; have := hcl.out; omega)
          clear hT hc hown hb hc2 hcl h10
          go_wp2_with fail
          go_roundw
          case rel => exact ⟨p, k + 1, rfl, by go_num, by omega, by omega, by rw [T1.out]; exact HO.out, T3, T2, HB.out⟩
          case measure => simp [intOf]; omega
      · have e0 : s.data.toList.take k = s.data.toList := List.take_of_length_le (by rw [hz]; omega)
        rw [e0] at hown
        have HO := Lib.hid hown
        have HB := Lib.hid hb
        have d : decide (k < s.size) = false := by rw [decide_eq_false_iff_not]; exact hlt
        clear hown hb e0 hlt
        go_wp2_with fail
        go_ret2
        exact Gives.ok R.out HO.out HB.out
end Go.Proofs.YtpdekihfgglmkaaDoor
