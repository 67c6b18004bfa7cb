/-
  Close, IsClosed: what each call answers; nothing that existed before the call has changed behind it. Condition: lists of at most 4096 footpaths, their numbers of 64 bits.
-/
import Derived.Test.YtibakhobgfiklaaFpC
import Derived.Test.YtibakhobgfiklaaFpK
namespace Go.Proofs.Ytibakhobgfiklaa
open Go.RowKit Go.Sort

def clsE (st : Int) (l : List Fp) : Int := if 64 < st then 5 else (chkP st l).2
def clsL (st : Int) (l : List Fp) : List Fp := if 64 < st then [] else if (chkP st l).2 = 0 then cloE st l else []
def iscF (st : Int) (l : List Fp) : Bool := if 64 < st then false else if (vldP st l).2 = 0 then decide (l = cloE st l) else false
set_option maxRecDepth 100000 in
set_option maxHeartbeats 2000000 in
theorem kclose_any (v : Value) (l : List Fp) (hl : l.length ≤ 4096) (st : Int) (h64 : L64 l) (w : World) (h : LstF w v l) :
    Calls Try.prog 14 #[v, .int .i64 st] w fun e w' => ∃ v', e = .returned (.tuple #[v', .int .i64 (clsE st l)]) ∧ LstF w' v' (clsL st l) ∧ RowKit.Below w.heap.size w w' ∧ (clsL st l).length ≤ 8192 := by
  have hh := h
  obtain ⟨A, c, rfl, -⟩ := hh
  by_cases h1 : 64 < st
  · have E : clsE st l = 5 := by unfold clsE; rw [if_pos h1]
    have L : clsL st l = [] := by unfold clsL; rw [if_pos h1]
    rw [E, L]
    clear E L h
    go_enter Try.func14, Try.ntmps14
    go_wp2_with fail
    go_ret2
    exact ⟨_, rfl, LstG.nil _ _, RowKit.Below.refl _ _, by simp⟩
  · have d1 : decide (64 < st) = false := decide_eq_false h1
    have CK := Lib.hid (kchk_any (.slice A l.length c) l (by omega) st h64 w h)
    by_cases h2 : (chkP st l).2 = 0
    · have E : clsE st l = 0 := by unfold clsE; rw [if_neg h1, h2]
      have L : clsL st l = cloE st l := by unfold clsL; rw [if_neg h1, if_pos h2]
      rw [E, L]
      rw [h2] at CK
      have CL := Lib.hid (fun W (hb : RowKit.Below w.heap.size w W) => closure_any (.slice A l.length c) l hl st (by omega) (chk_ok h2) W (h.below hb))
      have t : ((0 : Int) != 0) = false := rfl
      clear E L h h1 h2
      go_enter Try.func14, Try.ntmps14
      go_wp2_with fail
      refine CK.out.mono ?_
      rintro e w1 ⟨rfl, b1⟩
      have C1 := Lib.hid (CL.out w1 b1)
      have B1 := Lib.hid b1
      clear CK CL b1
      go_wp2_with fail
      refine C1.out.mono ?_
      rintro e w2 ⟨v2, rfl, o2, b2, n2⟩
      have K := Lib.hid (And.intro o2 (And.intro (B1.out.trans (b2.mono B1.out.size)) n2))
      clear C1 B1 o2 b2 n2
      go_wp2_with fail
      go_ret2
      exact ⟨_, rfl, K.out⟩
    · have E : clsE st l = (chkP st l).2 := by unfold clsE; rw [if_neg h1]
      have L : clsL st l = [] := by unfold clsL; rw [if_neg h1, if_neg h2]
      rw [E, L]
      have t := bne_true h2
      generalize chkP st l = q at *
      clear E L h h1 h2
      go_enter Try.func14, Try.ntmps14
      go_wp2_with fail
      refine CK.out.mono ?_
      rintro e w1 ⟨rfl, b1⟩
      have B1 := Lib.hid b1
      clear CK b1
      go_wp2_with fail
      go_ret2
      exact ⟨_, rfl, LstG.nil _ _, B1.out, by simp⟩
set_option maxRecDepth 100000 in
set_option maxHeartbeats 2000000 in
theorem kisc_any (v : Value) (l : List Fp) (hl : l.length ≤ 4096) (st : Int) (h64 : L64 l) (w : World) (h : LstF w v l) : Calls Try.prog 22 #[v, .int .i64 st] w fun e w' => e = .returned (.bool (iscF st l)) ∧ Below w.heap.size w w' := by
  have hh := h
  obtain ⟨A, c, rfl, -⟩ := hh
  by_cases h1 : 64 < st
  · have E : iscF st l = false := by unfold iscF; rw [if_pos h1]
    rw [E]
    clear E h
    go_enter Try.func22, Try.ntmps22
    go_wp2_with fail
    go_ret
    exact ⟨rfl, RowKit.Below.refl _ _⟩
  · have d1 : decide (64 < st) = false := decide_eq_false h1
    have CK := Lib.hid (kfe_any (.slice A l.length c) l (by omega) st h64 w h)
    by_cases h2 : (vldP st l).2 = 0
    · have E : iscF st l = decide (l = cloE st l) := by unfold iscF; rw [if_neg h1, if_pos h2]
      rw [E]
      rw [h2] at CK
      have CL := Lib.hid (fun W (hb : RowKit.Below w.heap.size w W) => closure_any (.slice A l.length c) l hl st (by omega) (vld_ok h2) W (h.below hb))
      have t : ((0 : Int) != 0) = false := rfl
      have H := Lib.hid h
      clear E h h1 h2
      go_enter Try.func22, Try.ntmps22
      go_wp2_with fail
      refine CK.out.mono ?_
      rintro e w1 ⟨rfl, b1⟩
      have C1 := Lib.hid (CL.out w1 b1)
      have B1 := Lib.hid b1
      clear CK CL b1
      go_wp2_with fail
      refine C1.out.mono ?_
      rintro e w2 ⟨v2, rfl, o2, b2, n2⟩
      have B2 := Lib.hid (B1.out.trans (b2.mono B1.out.size))
      have EQ := Lib.hid (equal_any (.slice A l.length c) v2 l (cloE st l) (by omega) w2 (H.out.below B2.out) o2)
      obtain ⟨A2, c2, rfl, -⟩ := _root_.id o2
      obtain ⟨m, hm⟩ : ∃ m, (cloE st l).length = m := ⟨_, rfl⟩
      rw [hm] at EQ
      rw [hm]
      obtain ⟨r, hr⟩ : ∃ r, decide (l = cloE st l) = r := ⟨_, rfl⟩
      rw [hr] at EQ
      have VE := Lib.hid hr
      clear C1 B1 o2 b2 n2 hm hr
      go_wp2_with fail
      refine EQ.out.mono ?_
      rintro e w3 ⟨rfl, m3, hm3⟩
      have B3 : Hid (RowKit.Below w.heap.size w w3) := by show RowKit.Below _ _ _; rw [hm3]; exact below_drewN B2.out m3
      clear EQ hm3 B2
      go_wp2_with fail
      go_ret
      exact ⟨ret_bool VE.out.symm, B3.out⟩
    · have E : iscF st l = false := by unfold iscF; rw [if_neg h1, if_neg h2]
      rw [E]
      have t := bne_true h2
      generalize vldP st l = q at *
      clear E h h1 h2
      go_enter Try.func22, Try.ntmps22
      go_wp2_with fail
      refine CK.out.mono ?_
      rintro e w1 ⟨rfl, b1⟩
      have B1 := Lib.hid b1
      clear CK b1
      go_wp2_with fail
      go_ret
      exact ⟨rfl, B1.out⟩
end Go.Proofs.Ytibakhobgfiklaa
