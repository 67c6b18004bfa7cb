/-
  combine: a condition swept over the ends of two lists. Condition: lists of at most 10000 spans.
-/
import Derived.Test.YtmlmdggfcdakhaaVEnd
namespace Go.Proofs.Ytmlmdggfcdakhaa
open Go.RowKit

theorem sweep_same {f : Int → Bool} {e : List Int} {k : Nat} {x : Int} (hx : e[k]? = some x) {ins : Bool} (h : f x = ins) (fr : Int) : sweep f (e.drop k) ins fr = sweep f (e.drop (k + 1)) ins fr := by
  rw [drop_at e k x hx]; simp [sweep, h]
theorem sweep_open {f : Int → Bool} {e : List Int} {k : Nat} {x : Int} (hx : e[k]? = some x) (h : f x = true) (fr : Int) : sweep f (e.drop k) false fr = sweep f (e.drop (k + 1)) true x := by
  rw [drop_at e k x hx]; simp [sweep, h]
theorem sweep_shut {f : Int → Bool} {e : List Int} {k : Nat} {x : Int} (hx : e[k]? = some x) (h : f x = false) (fr : Int) : sweep f (e.drop k) true fr = (fr, x) :: sweep f (e.drop (k + 1)) false x := by
  rw [drop_at e k x hx]; simp [sweep, h]
set_option maxRecDepth 100000 in
set_option maxHeartbeats 8000000 in
theorem combine_any (va vb fv : Value) (a b : List Sp) (f : Int → Bool) (op : Opr f a b) (ha : a.length ≤ 10000) (hb : b.length ≤ 10000) (w : World) (hA : LstV w va a) (hB : LstV w vb b) (hC : Cond w fv f) :
    Calls Try.prog 34 #[va, vb, fv] w fun e w' => ∃ v', e = .returned v' ∧ LstV w' v' (opS f a b) ∧ Below w.heap.size w w' := by
  have C := Lib.hid (iends_any va vb a b (by omega) (by omega) w hA hB)
  have hlen : (srtI (endsS (a ++ b))).length ≤ 40000 := by rw [srtI_len, endsS_len, List.length_append]; omega
  have SW : Hid (sweep f (srtI (endsS (a ++ b))) false 0 = opS f a b) := sweep_op op (fun z => by rw [srtI_mem, endsS_app, List.mem_append]) (srtI_up _) 0
  generalize srtI (endsS (a ++ b)) = e at C hlen SW
  obtain ⟨K, caps, rfl, eg, hcall⟩ := hC
  have HC := Lib.hid hcall
  clear hA hB hcall op
  go_enter Try.func34, Try.ntmps34
  go_wp2_with fail
  refine C.out.mono ?_
  rintro er w1 ⟨ve, rfl, l1, b1⟩
  have hh := l1
  obtain ⟨A, c, rfl, -⟩ := hh
  have L1 := Lib.hid l1
  have B1 := Lib.hid b1
  clear l1 b1 C
  go_wp2_with fail
  go_loopw [7, 8, 9, 16] (fun u fr ins i wr => ∃ (k : Nat) (acc : List Sp) (f0 : Int) (q : Bool), i = .int .i64 (k : Int) ∧ k ≤ e.length ∧ fr = .int .i64 f0 ∧ ins = .bool q ∧ acc.length ≤ k ∧ Hid (acc ++ sweep f (e.drop k) q f0 = sweep f e false 0) ∧ Hid (OwnV wr w1.heap.size u acc) ∧ Hid (Below w1.heap.size w1 wr)) (fun _ _ _ i _ => e.length - (intOf i).toNat)
  case atStart => exact ⟨0, [], 0, false, rfl, Nat.zero_le _, rfl, rfl, Nat.zero_le _, Lib.hid rfl, Lib.hid (OwnG.nil _ _ _ _ _), Lib.hid (Below.refl _ _)⟩
  case round =>
    obtain ⟨k, acc, f0, q, rfl, hk, rfl, rfl, hac, HE, HO, HB⟩ := hrel
    by_cases hlt : k < e.length
    · obtain ⟨x, hx⟩ := at_lt hlt
      obtain ⟨p, o, rfl, hp, m0⟩ := int_at (L1.out.below HB.out) hx
      have gk : (k : Int) < (e.length : Int) := by omega
      have CC := Lib.hid (HC.out x wr (B1.out.trans (HB.out.mono B1.out.size)))
      have SS : Hid (∀ ins fr, f x = ins → sweep f (e.drop k) ins fr = sweep f (e.drop (k + 1)) ins fr) := fun ins fr h => sweep_same hx h fr
      have SO : Hid (∀ fr, f x = true → sweep f (e.drop k) false fr = sweep f (e.drop (k + 1)) true x) := fun fr h => sweep_open hx h fr
      have SH : Hid (∀ fr, f x = false → sweep f (e.drop k) true fr = (fr, x) :: sweep f (e.drop (k + 1)) false x) := fun fr h => sweep_shut hx h fr
      have hz := HB.out.size
      clear hx
      rcases (by cases f x <;> simp : f x = true ∨ f x = false) with hf | hf <;> rcases (by cases q <;> simp : q = true ∨ q = false) with rfl | rfl
      · skip
        have E : Hid (acc ++ sweep f (e.drop (k + 1)) true f0 = sweep f e false 0) := by
          show _ = _
          rw [← SS.out _ f0 hf]
          exact HE.out
        rw [hf] at CC
        clear SS SO SH HE hf
        go_wp2_with fail
        refine CC.out.mono ?_
        rintro er w2 ⟨rfl, b2⟩
        have O2 := Lib.hid (HO.out.below b2)
        have B2 := Lib.hid (HB.out.trans (b2.mono hz))
        clear CC b2 HO HB m0
        go_wp2_with fail
        go_roundw
        case rel => exact ⟨k + 1, acc, f0, true, by go_num, by omega, rfl, rfl, by omega, E, O2, B2⟩
        case measure => simp [intOf]; omega
      · have E : Hid (acc ++ sweep f (e.drop (k + 1)) true x = sweep f e false 0) := by
          show _ = _
          rw [← SO.out f0 hf]
          exact HE.out
        rw [hf] at CC
        clear SS SO SH HE hf
        go_wp2_with fail
        refine CC.out.mono ?_
        rintro er w2 ⟨rfl, b2⟩
        have O2 := Lib.hid (HO.out.below b2)
        have B2 := Lib.hid (HB.out.trans (b2.mono hz))
        clear CC b2 HO HB m0
        go_wp2_with fail
        go_roundw
        case rel => exact ⟨k + 1, acc, x, true, by go_num, by omega, rfl, rfl, by omega, E, O2, B2⟩
        case measure => simp [intOf]; omega
      · have E : Hid ((acc ++ [(f0, x)]) ++ sweep f (e.drop (k + 1)) false x = sweep f e false 0) := by
          show _ = _
          rw [List.append_assoc]
          show acc ++ ((f0, x) :: sweep f (e.drop (k + 1)) false x) = _
          rw [← SH.out f0 hf]
          exact HE.out
        rw [hf] at CC
        clear SS SO SH HE hf
        go_wp2_with fail
        refine CC.out.mono ?_
        rintro er w2 ⟨rfl, b2⟩
        have O2 := Lib.hid (HO.out.below b2)
        have B2 := Lib.hid (HB.out.trans (b2.mono hz))
        clear CC b2 HO HB m0
        go_wp2_with (at_builtin; refine appG_one sc_len sc_one (by decide) Try.underlying29 info_sp rfl (by decide) _ rfl (.tmp 26) (.tmp 30) rfl w1.heap.size _ acc (f0, x) rfl (World.ownsRow.alloc O2.out _) w2.heap.size _ (heap_alloc_new _ _) rfl rfl (by have := B2.out.size; simp; omega) (by omega) ?_; intro v3 w3 own3 b3 gr3 wh3; have O3 := Lib.hid own3; have B3 := Lib.hid ((B2.out.alloc B2.out.size _).trans b3); clear own3 b3 gr3 wh3)
        clear O2 B2
        go_wp2_with fail
        go_roundw
        case rel => exact ⟨k + 1, acc ++ [(f0, x)], x, false, by go_num, by omega, rfl, rfl, by simp; omega, E, O3, B3⟩
        case measure => simp [intOf]; omega
      · skip
        have E : Hid (acc ++ sweep f (e.drop (k + 1)) false f0 = sweep f e false 0) := by
          show _ = _
          rw [← SS.out _ f0 hf]
          exact HE.out
        rw [hf] at CC
        clear SS SO SH HE hf
        go_wp2_with fail
        refine CC.out.mono ?_
        rintro er w2 ⟨rfl, b2⟩
        have O2 := Lib.hid (HO.out.below b2)
        have B2 := Lib.hid (HB.out.trans (b2.mono hz))
        clear CC b2 HO HB m0
        go_wp2_with fail
        go_roundw
        case rel => exact ⟨k + 1, acc, f0, false, by go_num, by omega, rfl, rfl, by omega, E, O2, B2⟩
        case measure => simp [intOf]; omega
    · have d : decide (k < e.length) = false := by rw [decide_eq_false_iff_not]; exact hlt
      have R : Hid (opS f a b = acc) := by
        show _ = _
        have h := HE.out
        rw [List.drop_eq_nil_of_le (by omega)] at h
        rw [← SW.out, ← h]
        simp [sweep]
      clear hlt HE
      go_wp2_with fail
      go_ret
      exact ⟨_, rfl, by rw [R.out]; exact OwnG.lst HO.out, B1.out.trans (HB.out.mono B1.out.size)⟩
end Go.Proofs.Ytmlmdggfcdakhaa
