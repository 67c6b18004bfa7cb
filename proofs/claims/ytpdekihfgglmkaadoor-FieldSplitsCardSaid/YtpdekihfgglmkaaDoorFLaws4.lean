/-
  The last of package field's nine statements, FieldAppends: each call returns true; nothing that existed before the call has changed behind it. Condition: none beyond the theorem's own hypotheses.
-/
import Derived.Test.YtpdekihfgglmkaaDoorFLaws3
namespace Go.Proofs.YtpdekihfgglmkaaDoor
open Go.RowKit

/-- Appending a list that came in. -/
theorem app_list (w : World) {ops : Array Oper} {rest : List Oper} {o : Oper} {a : Act} {Q : Exit → Act → World → Prop} (hgd : o.guard = none) (s x : Operand)
    (ho : o.op = .call { callee := .builtin .append, args := #[s, x], argTypes := #[30, 30] }) (base : Nat) (v : Value) (l m : List (List UInt8)) (hs : a.eval s = v) (hown : OwnS w base v l)
    (b f c : Nat) (hx : a.eval x = .slice (some ⟨b, f, none⟩) m.length c) (hc : ∀ (j : Nat) u, (sts m)[j]? = some u → w.cell? ⟨b, f + j, none⟩ = some u) (hb : base ≤ w.heap.size)
    (hl : l.length + m.length ≤ 1099511627776) (h : ∀ v' w', OwnS w' base v' (l ++ m) → Below base w w' → wpList Tryd.prog ops Q rest (a.put o.dst v') w') : wpList Tryd.prog ops Q (o :: rest) a w := by
  obtain ⟨i, hi, hz, hsz, hby⟩ := info_parts info_str
  refine wpList_append_own w hgd s x 30 ho base 9 i _ 1 16 Tryd.underlying30 hi hz hsz hby rfl (by decide) v l.length (sts l) hs hown ⟨b, f, none⟩ m.length c (sts m) hx (by simp) ?_ (sts_one m) (by unfold maxLen; omega) (by omega) hb ?_
  · intro j u hu
    have hadd : (⟨b, f, none⟩ : Addr).add j = ⟨b, f + j, none⟩ := by unfold Addr.add; split <;> simp_all
    rw [hadd]
    exact hc j u hu
  · intro v' w' h1 h2 _
    refine h v' w' ?_ (own_grown hown h2 hb)
    unfold OwnS sts
    rw [List.length_append, List.map_append]
    exact h1
theorem joinR_app (a b : List (List UInt8)) (ha : a ≠ []) (hb : b ≠ []) (h : (joinR (a ++ b)).2 = 0) : joinR a = (lineL a, 0) ∧ joinR b = (lineL b, 0) ∧ joinR (a ++ b) = (lineL a ++ 44 :: lineL b, 0) ∧ (lineL a).length + (lineL b).length ≤ 65536 := by
  have hl := line_app a b ha hb
  have hlen := congrArg List.length hl
  rw [List.length_append, List.length_cons] at hlen
  unfold joinR at *
  by_cases h64 : 64 < (a ++ b).length
  · rw [if_pos h64] at h; simp at h
  · rw [if_neg h64] at h
    by_cases h6 : 65536 < (lineL (a ++ b)).length
    · rw [if_pos h6] at h; simp at h
    · rw [List.length_append] at h64
      refine ⟨?_, ?_, ?_, by omega⟩
      · rw [if_neg (by omega), if_neg (by omega)]
      · rw [if_neg (by omega), if_neg (by omega)]
      · rw [if_neg (by rw [List.length_append]; omega), if_neg h6, hl]
set_option maxHeartbeats 2000000 in
theorem appends_law (u : Value) (a : List (List UInt8)) (ha : a.length ≤ 9223372036854775807) (v : Value) (b : List (List UInt8)) (hb : b.length ≤ 9223372036854775807) (w : World) (h1 : Lst w u a) (h2 : Lst w v b) : Calls Tryd.prog 11 #[u, v] w fun e w' => e = .returned (.bool true) ∧ Below w.heap.size w w' := by
  have S1 := Lib.hid (small_any u a ha w h1)
  have S2 := Lib.hid (small_any v b hb w h2)
  cases hs1 : smallB a with
  | false =>
    rw [hs1] at S1
    clear hs1 h1 h2 S2
    go_enter Tryd.func11, Tryd.ntmps11
    go_wp2_with fail
    refine (S1.out).mono ?_
    rintro e w' ⟨rfl, rfl⟩
    go_wp2_with fail
    refine (example_holds _).mono ?_
    rintro e w1 ⟨rfl, b1⟩
    go_wp2_with fail
    go_ret
    exact ⟨rfl, b1⟩
  | true =>
    rw [hs1] at S1
    cases hs2 : smallB b with
    | false =>
      rw [hs2] at S2
      clear hs1 hs2 h1 h2
      go_enter Tryd.func11, Tryd.ntmps11
      go_wp2_with fail
      refine (S1.out).mono ?_
      rintro e w' ⟨rfl, rfl⟩
      go_wp2_with fail
      refine (S2.out).mono ?_
      rintro e w' ⟨rfl, rfl⟩
      go_wp2_with fail
      refine (example_holds _).mono ?_
      rintro e w1 ⟨rfl, b1⟩
      go_wp2_with fail
      go_ret
      exact ⟨rfl, b1⟩
    | true =>
      rw [hs2] at S2
      obtain ⟨hn1, hx1⟩ := (small_iff a).1 hs1
      obtain ⟨hn2, hx2⟩ := (small_iff b).1 hs2
      have hx1' : ∀ x ∈ a, x.length ≤ 16384 := fun x hm => by have := hx1 x hm; omega
      have hx2' : ∀ x ∈ b, x.length ≤ 16384 := fun x hm => by have := hx2 x hm; omega
      obtain ⟨A, c, rfl, hc1, hcell1⟩ := h1
      obtain ⟨B, d, rfl, hc2, hcell2⟩ := h2
      by_cases ha0 : a.length = 0
      · have g1 : ((a.length : Int) == 0) = true := beq_true (by omega)
        have g1' : (a.length == 0) = true := by rw [beq_iff_eq]; exact ha0
        have g1'' : a = [] := List.length_eq_zero_iff.1 ha0
        clear hs1 hs2 hx1 hx2 hx1' hx2' ha0 hcell1 hcell2 g1''
        go_enter Tryd.func11, Tryd.ntmps11
        go_wp2_with fail
        refine (S1.out).mono ?_
        rintro e w' ⟨rfl, rfl⟩
        go_wp2_with fail
        refine (S2.out).mono ?_
        rintro e w' ⟨rfl, rfl⟩
        go_wp2_with fail
        refine (example_holds _).mono ?_
        rintro e w1 ⟨rfl, b1⟩
        go_wp2_with fail
        go_ret
        exact ⟨rfl, b1⟩
      have g1 : ((a.length : Int) == 0) = false := beq_false (by omega)
      have g1' : (a.length == 0) = false := by rw [beq_eq_false_iff_ne]; exact ha0
      have g1'' : ¬ a = [] := fun e => ha0 (by rw [e]; rfl)
      by_cases hb0 : b.length = 0
      · have g2 : ((b.length : Int) == 0) = true := beq_true (by omega)
        have g2' : (b.length == 0) = true := by rw [beq_iff_eq]; exact hb0
        clear hs1 hs2 hx1 hx2 hx1' hx2' ha0 hb0 hcell1 hcell2
        go_enter Tryd.func11, Tryd.ntmps11
        go_wp2_with fail
        refine (S1.out).mono ?_
        rintro e w' ⟨rfl, rfl⟩
        go_wp2_with fail
        refine (S2.out).mono ?_
        rintro e w' ⟨rfl, rfl⟩
        go_wp2_with fail
        refine (example_holds _).mono ?_
        rintro e w1 ⟨rfl, b1⟩
        go_wp2_with fail
        go_ret
        exact ⟨rfl, b1⟩
      have g2 : ((b.length : Int) == 0) = false := beq_false (by omega)
      have g2' : (b.length == 0) = false := by rw [beq_eq_false_iff_ne]; exact hb0
      have g2'' : ¬ b = [] := fun e => hb0 (by rw [e]; rfl)
      have hxab : ∀ x ∈ a ++ b, x.length ≤ 16384 := fun x hm => by
        rcases List.mem_append.1 hm with hm | hm
        · exact hx1' x hm
        · exact hx2' x hm
      obtain ⟨b1, o1, rfl, hb1, hx1c⟩ := hcell1 (by omega)
      obtain ⟨b2, o2, rfl, hb2, hx2c⟩ := hcell2 (by omega)
      have L1 : Hid (Lst w (.slice (some ⟨b1, o1, none⟩) a.length c) a) := ⟨_, _, rfl, hc1, fun _ => ⟨b1, o1, rfl, hb1, hx1c⟩⟩
      have L2 : Hid (Lst w (.slice (some ⟨b2, o2, none⟩) b.length d) b) := ⟨_, _, rfl, hc2, fun _ => ⟨b2, o2, rfl, hb2, hx2c⟩⟩
      have J1 := Lib.hid (fun w1 (bw : Below w.heap.size w w1) => fjoin_any _ a (by omega) hx1' w1 (L1.out.below bw))
      have J2 := Lib.hid (fun w1 (bw : Below w.heap.size w w1) => fjoin_any _ b (by omega) hx2' w1 (L2.out.below bw))
      have J3 := Lib.hid (fun (u : Value) (w1 : World) (hu : Lst w1 u (a ++ b)) => fjoin_any u (a ++ b) (by rw [List.length_append]; omega) hxab w1 hu)
      have C1 := Lib.hid hx1c
      have C2 := Lib.hid hx2c
      have hways : Hid (((joinR (a ++ b)).2 != 0) = true ∨ (joinR a = (lineL a, 0) ∧ joinR b = (lineL b, 0) ∧ joinR (a ++ b) = (lineL a ++ 44 :: lineL b, 0) ∧ (lineL a).length + (lineL b).length ≤ 65536)) := by
        show _ ∨ _
        by_cases h0 : (joinR (a ++ b)).2 = 0
        · exact Or.inr (joinR_app a b g1'' g2'' h0)
        · exact Or.inl (bne_true h0)
      clear hs1 hs2 hx1 hx2 hx1' hx2' ha0 hb0 hcell1 hcell2 hxab hx1c hx2c hc1 hc2 g1'' g2'' L1 L2
      go_enter Tryd.func11, Tryd.ntmps11
      go_wp2_with fail
      refine (S1.out).mono ?_
      rintro e w' ⟨rfl, rfl⟩
      go_wp2_with fail
      refine (S2.out).mono ?_
      rintro e w' ⟨rfl, rfl⟩
      go_wp2_with (first | (at_builtin; refine app_list _ rfl (.tmp 31) (.tmp 32) rfl w.heap.size _ [] a rfl (OwnS.nil _ _) b1 o1 c rfl C1.out (Nat.le_refl _) (by simp; omega) ?_; intro v1 w1 own1 bb1; have O1 := Lib.hid own1; have BB1 := Lib.hid bb1; have D2 := Lib.hid (fun (j : Nat) u (hu : (sts b)[j]? = some u) => (bb1.cell (p := ⟨b2, o2 + j, none⟩) hb2).trans (C2.out j u hu)); clear own1 bb1) | (at_builtin; refine app_list _ rfl (.tmp 33) (.tmp 34) rfl w.heap.size _ ([] ++ a) b rfl O1.out b2 o2 d rfl D2.out BB1.out.size (by simp; omega) ?_; intro v2 w2 own2 bb2; have O2 := Lib.hid own2; have BB2 := Lib.hid (BB1.out.trans bb2); clear own2 bb2))
      have K1 := Lib.hid (J1.out w2 BB2.out)
      clear J1
      rcases hways.out with hw | ⟨e1, e2, e3, hlen⟩
      · generalize joinR (a ++ b) = r3 at J3 hw
        generalize joinR a = r1 at K1
        generalize joinR b = r2 at J2
        clear hways
        refine (K1.out).mono ?_
        rintro e w3 ⟨rfl, b3'⟩
        have b3 := BB2.out.trans (b3'.mono BB2.out.size)
        have K2 := Lib.hid (J2.out w3 b3)
        have M3 := Lib.hid (O2.out.lst.below b3')
        clear J2 b3'
        go_wp2_with fail
        refine (K2.out).mono ?_
        rintro e w4 ⟨rfl, b4'⟩
        have b4 := b3.trans (b4'.mono b3.size)
        have K3 := Lib.hid (J3.out v2 w4 (M3.out.below b4'))
        clear J3 b4' b3 M3
        go_wp2_with fail
        refine (rel (W := w) K3.out b4).mono ?_
        rintro e w5 ⟨rfl, b5⟩
        clear b4
        go_wp2_with fail
        refine (rel (W := w) (example_holds _) b5).mono ?_
        rintro e w6 ⟨rfl, b6⟩
        go_wp2_with fail
        go_ret
        exact ⟨rfl, b6⟩
      · rw [e1] at K1
        rw [e2] at J2
        rw [e3] at J3
        obtain ⟨x, hx, hxz, hxs⟩ := as_str (lineL a)
        obtain ⟨y, hy, hyz, hys⟩ := as_str (lineL b)
        obtain ⟨z, hz, hzz, hzs⟩ := as_str (lineL a ++ 44 :: lineL b)
        have ne := bytes_eq (a := z) (b := x ++ ⟨#[44]⟩ ++ y) (by
          rw [← hxs, ← hys, ← hzs]
          show _ = str (lineL a) ++ str [44] ++ str (lineL b)
          rw [str_app, str_app]
          simp)
        have hlx : x.size + y.size ≤ 65536 := by omega
        rw [hxs] at K1
        rw [hys] at J2
        rw [hzs] at J3
        clear hways e1 e2 e3 hx hxz hxs hy hyz hys hz hzz hzs hlen
        have hlx1 : x.size ≤ 65536 := by omega
        have hly1 : y.size ≤ 65536 := by omega
        refine (K1.out).mono ?_
        rintro e w3 ⟨rfl, b3'⟩
        have b3 := BB2.out.trans (b3'.mono BB2.out.size)
        have K2 := Lib.hid (J2.out w3 b3)
        have M3 := Lib.hid (O2.out.lst.below b3')
        clear J2 b3'
        go_wp2_with fail
        refine (K2.out).mono ?_
        rintro e w4 ⟨rfl, b4'⟩
        have b4 := b3.trans (b4'.mono b3.size)
        have K3 := Lib.hid (J3.out v2 w4 (M3.out.below b4'))
        clear J3 b4' b3 M3
        go_wp2_with fail
        refine (rel (W := w) K3.out b4).mono ?_
        rintro e w5 ⟨rfl, b5⟩
        clear b4
        go_wp2_with fail
        refine (rel (W := w) (example_holds _) b5).mono ?_
        rintro e w6 ⟨rfl, b6⟩
        go_wp2_with fail
        go_ret
        exact ⟨rfl, b6⟩
end Go.Proofs.YtpdekihfgglmkaaDoor
