/-
  Bytes appended to a row that a conversion made; the laws ChecksumEnds, ChecksumDetects: true for every input, nothing that existed has changed. Condition: none beyond each theorem's own hypotheses.
-/
import Derived.Test.YtkadgmihaccogaaCLaw2
import Derived.ArgAppend
namespace Go.Proofs.Ytkadgmihaccogaa
open Go.RowKit

theorem below_cells {B b : Nat} (hb : B ≤ b) : ∀ (vs : List Value) (o : Nat) (w0 w : World), Below B w0 w → Below B w0 (w.setCells b o vs)
  | [], _, _, _, h => h
  | v :: vs, o, w0, _, h => below_cells hb vs (o + 1) w0 _ (below_cell h hb v)
/-- Appending to a row that a conversion made: where there is room, and where there is none. -/
theorem app_frz (w : World) {ops : Array Oper} {rest : List Oper} {o : Oper} {a : Act} {Q : Exit → Act → World → Prop} (hgd : o.guard = none) (s x : Operand)
    (ho : o.op = .call { callee := .builtin .append, args := #[s, x], argTypes := #[22, 22] }) (g cap n : Nat) (l m : List UInt8) (hn' : l.length = n) (hs : a.eval s = .slice (some ⟨g, 0, none⟩) n cap) (hF : HasF w g cap l)
    (y : Value) (hx : a.eval x = y) (hy : LstB w y m) (hm : 0 < m.length) (B : Nat) (hB : B ≤ g)
    (hl : l.length + m.length ≤ 140737488355328) (h : ∀ v' w', LstB w' v' (l ++ m) → Below B w w' → wpList Try.prog ops Q rest (a.put o.dst v') w') : wpList Try.prog ops Q (o :: rest) a w := by
  subst hn'
  obtain ⟨i, hi, hz, hsz, hby⟩ := info_parts info_u8
  obtain ⟨A, c, rfl, hc, hn, hcell⟩ := hy
  obtain ⟨b, f, rfl, hb, hcc⟩ := hcell hm
  have hadd : ∀ j, (⟨b, f, none⟩ : Addr).add j = ⟨b, f + j, none⟩ := fun j => Addr.add_lit _ _ _
  have hg := hF.lt
  refine wpList_append_arg w hgd s x 22 ho 5 i _ 1 1 Try.underlying22 hi hz hsz hby rfl (by decide) g 0 l.length cap (bts l) hs (by simp) ?_ ⟨b, f, none⟩ m.length c (bts m) hx (by simp) (fun j u hu => by rw [hadd]; exact hcc j u hu) (bts_one m) ?_ (by unfold maxLen; omega) (by omega) ?_ ?_
  · intro j u hu
    have hj := (List.getElem?_eq_some_iff.1 hu).1
    rw [List.length_map] at hj
    obtain ⟨z, hz⟩ := at_lt hj
    rw [Nat.zero_add, hF.cell hz, ← hu]
    exact (bts_at l j z hz).symm
  · intro hroom j hj
    rw [List.length_map] at hj
    exact ⟨hF.there (by omega), hF.free (by omega)⟩
  · intro hroom
    refine h _ _ ?_ (below_cells hB _ _ _ _ (Below.refl _ _))
    refine ⟨_, _, by rw [List.length_append], by rw [List.length_append]; exact hroom, fun h => (by cases h), fun _ => ⟨g, 0, rfl, ?_, fun j u hu => ?_⟩⟩
    · exact Nat.lt_of_lt_of_le hg (below_cells (Nat.le_refl g) (bts m) _ w w (Below.refl _ _)).size
    · have hu' : (bts l ++ bts m)[j]? = some u := by rw [← hu]; unfold bts; rw [List.map_append]
      rw [show 0 + l.length * 1 = l.length by omega, show 0 + j = j by omega]
      rcases Nat.lt_or_ge j l.length with hj | hj
      · rw [List.getElem?_append_left (by rw [List.length_map]; exact hj)] at hu'
        obtain ⟨z, hz⟩ := at_lt hj
        rw [World.cell?_setCells_out _ _ _ _ _ (fun _ _ => Or.inl hj), hF.cell hz, ← hu']
        exact (bts_at l j z hz).symm
      · rw [List.getElem?_append_right (by rw [List.length_map]; exact hj), List.length_map] at hu'
        obtain ⟨hjm, hv⟩ := List.getElem?_eq_some_iff.1 hu'
        have := World.cell?_setCells_in (b := g) (bts m) l.length w (fun k hk => by
          rw [List.length_map] at hk
          exact hF.there (by omega)) (j - l.length) hjm
        rw [show l.length + (j - l.length) = j by omega] at this
        rw [this, hv]
  · intro _ v' w' ho hgr
    refine h v' w' ?_ ((Below.refl _ _).grown hgr (by omega) fun k hk => by cases hk)
    have o2 : OwnB w' w.heap.size v' (l ++ m) := by
      unfold OwnB bts
      rw [List.length_append, List.map_append]
      exact ho
    exact o2.lst
theorem ver_no {l : List UInt8} (h : 4 ≤ l.length) (ho : opens l = false) : verE l = 38 ∧ verL l = [] := ver_bad (by omega) ho
set_option maxHeartbeats 1000000 in
theorem ends_law (v : Value) (l : List UInt8) (hl : l.length ≤ 9223372036854775807) (p : Nat) (hp : p < 4294967296) (w : World) (h : LstB w v l) : Calls Try.prog 9 #[v, .int .u32 (p : Int)] w fun e w' => e = .returned (.bool true) ∧ Below w.heap.size w w' := by
  have X := Lib.hid (fun W => ex_any W)
  by_cases g1 : 4096 < l.length
  · obtain ⟨A, c, rfl, -⟩ := h
    have g : (4096 : Int) < (l.length : Int) := by omega
    clear g1
    go_enter Try.func9, Try.ntmps9
    go_wp2_with fail
    refine (X.out _).mono ?_
    rintro e w1 ⟨rfl, b1⟩
    go_wp2_with fail
    go_ret
    exact ⟨rfl, b1⟩
  have d1 : decide ((4096 : Int) < (l.length : Int)) = false := by simp; omega
  by_cases g2 : p = 0
  · obtain ⟨A, c, rfl, -⟩ := h
    subst g2
    clear g1
    go_enter Try.func9, Try.ntmps9
    go_wp2_with fail
    refine (X.out _).mono ?_
    rintro e w1 ⟨rfl, b1⟩
    go_wp2_with fail
    go_ret
    exact ⟨rfl, b1⟩
  have d2 : ((p : Int) == 0) = false := beq_false (by omega)
  have M := Lib.hid (append_any v l (by omega) w h)
  have hs4 := sealL_length l
  have F := Lib.hid (fun u W (hu : LstB W u (sealL l)) => flip_any u (sealL l) (by omega) (8 * l.length) p (by omega) hp W hu)
  rw [show ((8 * l.length : Nat) : Int) = 8 * (l.length : Int) by omega] at F
  have hm4 : (flipN (sealL l) (8 * l.length) p 32).length = l.length + 4 := by rw [flipN_length, hs4]
  have V := Lib.hid (fun u W (hu : LstB W u (flipN (sealL l) (8 * l.length) p 32)) => verify_any u _ (by omega) W hu)
  rw [(ver_no (by omega) (opens_ends l p hp g2)).1, (ver_no (by omega) (opens_ends l p hp g2)).2] at V
  have N := Lib.hid (fits_ends l p 32 (Nat.le_refl _))
  obtain ⟨A, c, rfl, -⟩ := h
  generalize flipN (sealL l) (8 * l.length) p 32 = t at F V hm4
  have HM := Lib.hid hm4
  generalize sealL l = s at M F N hs4
  rw [hs4] at F N
  have HS := Lib.hid hs4
  have gl : (l.length : Int) ≤ 4096 := by omega
  clear g1 g2 hs4 hm4 hp
  go_enter Try.func9, Try.ntmps9
  go_wp2_with fail
  refine M.out.mono ?_
  rintro e w1 ⟨u1, rfl, o1, b1⟩
  have K := Lib.hid (F.out u1 w1 o1.lst)
  obtain ⟨A1, c1, rfl⟩ := own_shape' o1
  rw [HS.out] at K ⊢
  clear o1 M F
  go_wp2_with fail
  refine K.out.mono ?_
  rintro e w2 ⟨(⟨cap, rfl, hF, -⟩ | ⟨-, hno⟩), k2⟩
  · have b2 : Below w.heap.size w w2 := b1.trans (k2.mono b1.size)
    have L2 := hF.lst
    rw [HM.out] at L2
    have K2 := Lib.hid (V.out _ w2 L2)
    clear K k2 b1 hF L2
    go_wp2_with fail
    refine K2.out.mono ?_
    rintro e w3 ⟨u3, rfl, -, k3⟩
    have b3 : Below w.heap.size w w3 := b2.trans (k3.mono b2.size)
    clear k3 b2
    go_wp2_with fail
    refine (rel (W := w) (X.out w3) b3).mono ?_
    rintro e w4 ⟨rfl, b4⟩
    go_wp2_with fail
    go_ret
    exact ⟨rfl, b4⟩
  · exact absurd N.out hno
end Go.Proofs.Ytkadgmihaccogaa
