/-
  A stable sort of a row of footpaths (SortStableFunc): the same footpaths, in order, those that the comparison does not part in their old order. Condition: rows of at most 100000000 elements.
-/
import Derived.Test.YtibakhobgfiklaaFpG
namespace Go.Proofs.Ytibakhobgfiklaa
open Go.RowKit Go.Sort

theorem bl_two {s : Nat} (hs : 0 < s) {E : List (List Tg)} (h : BL s E) (hn : s < E.flatten.length) : ∃ X Y E', E = X :: Y :: E' ∧ X.length = s ∧ 0 < Y.length ∧ Y.length ≤ s ∧ BL s E' ∧ (E' ≠ [] → Y.length = s) := by
  match E, h with
  | [], _ => simp at hn
  | [C], h => simp at hn; exact absurd h.2 (by omega)
  | C :: D :: r, h =>
    obtain ⟨h1, h2, h3⟩ := bl_cons h.2 hs
    refine ⟨C, D, r, rfl, h.1, h1, h2, h3, fun hr => ?_⟩
    match r, hr, h.2 with
    | _ :: _, _, h4 => exact h4.1
theorem bl_few {s t : Nat} (hs : 0 < s) (hst : s ≤ t) {E : List (List Tg)} (h : BL s E) (hn : E.flatten.length ≤ s) : BL t E := by
  match E, h with
  | [], _ => trivial
  | [C], h => exact ⟨h.1, by have := h.2; omega⟩
  | C :: D :: r, h =>
    exfalso
    have h1 := h.1
    have h2 := (bl_cons h.2 hs).1
    simp only [List.flatten_cons, List.length_append] at hn
    omega
theorem bl_app {t : Nat} (ht : 0 < t) {D E : List (List Tg)} (hE : BL t E) (hD : ∀ C ∈ D, C.length = t) : BL t (D ++ E) := by
  rcases bl_snoc hE hD with h | h
  · exact h
  · omega
set_option maxRecDepth 100000 in
set_option maxHeartbeats 4000000 in
theorem stb_any (base g c N : Nat) (hN2 : N ≤ 100000000) (L0 : List Tg) (hN : L0.length = N) (ho : Opn cfT ltT L0) (w : World) (h : OwnT w base (.slice (some ⟨g, 0, none⟩) N c) L0) (hs : base ≤ w.heap.size) :
    Calls Try.prog 68 #[.slice (some ⟨g, 0, none⟩) N c, .int .i64 (N : Int), cmpV] w fun e w' =>
      e = .returned (.tuple #[]) ∧ ∃ L, L.Perm L0 ∧ L.Pairwise ltT ∧ OwnT w' base (.slice (some ⟨g, 0, none⟩) N c) L ∧ RowKit.Below base w w' := by
  have HS := Lib.hid hs
  have HN := Lib.hid hN
  have H0 : Hid (OwnT w base (.slice (some ⟨g, 0, none⟩) N c) (([] : List (List Tg)).flatten ++ L0)) := Lib.hid h
  have A0 := Lib.hid (Ahd.start ho)
  clear hs hN h ho
  go_enter Try.func68, Try.ntmps68
  go_wp2_with fail
  go_loopw [7, 8] (fun a b wr => ∃ (a' b' : Nat) (Cs : List (List Tg)) (R : List Tg), a = .int .i64 (a' : Int) ∧ b = .int .i64 (b' : Int) ∧ Hid (a' + 20 = b' ∧ a' + R.length = N ∧ Cs.flatten.length = a') ∧ Hid (∀ C ∈ Cs, C.length = 20) ∧ Hid (Ahd cfT ltT L0 Cs R) ∧ Hid (OwnT wr base (.slice (some ⟨g, 0, none⟩) N c) (Cs.flatten ++ R)) ∧ Hid (RowKit.Below base w wr)) (fun _ b _ => N + 20 - (intOf b).toNat)
  case atStart => exact ⟨0, 20, [], L0, rfl, rfl, Lib.hid ⟨rfl, by have := HN.out; omega, rfl⟩, Lib.hid (fun C hC => absurd hC List.not_mem_nil), A0, H0, Lib.hid (RowKit.Below.refl _ _)⟩
  case round =>
    clear H0 A0
    obtain ⟨a, b, Cs, R, rfl, rfl, HL, HC, HA, HO, HB⟩ := hrel
    obtain ⟨l1, l2, l3⟩ := HL.out
    have HSW : Hid (base ≤ wr.heap.size) := Nat.le_trans HS.out HB.out.size
    by_cases hle : b ≤ N
    · have gi : (b : Int) ≤ (N : Int) := by omega
      have hx : (R.take 20).length = 20 := by rw [List.length_take]; omega
      have eR := List.take_append_drop 20 R
      have hA := HA.out
      rw [← eR] at hA
      have lR : (R.drop 20).length + 20 = R.length := by rw [List.length_drop]; omega
      have C := Lib.hid (ins_any base g c N a b Cs.flatten (R.take 20) (R.drop 20) l3 (by omega) (by omega) hN2 hA.opn_head wr (by rw [eR]; exact HO.out) HSW.out)
      have HA2 := Lib.hid hA
      have LX : Hid (b + (R.drop 20).length = N) := by show _ = _; omega
      have LF : Hid (∀ Z : List Tg, Z.Perm (R.take 20) → Z.length = 20 ∧ (Cs ++ [Z]).flatten.length = b) := by
        intro Z hZ
        have : Z.length = 20 := by rw [hZ.length_eq]; exact hx
        refine ⟨this, ?_⟩
        simp only [List.flatten_append, List.flatten_cons, List.flatten_nil, List.length_append, List.length_nil]
        omega
      have bb : b ≤ 100000000 := by omega
      have MB : Hid (b ≤ N) := Lib.hid hle
      clear l1 l2 l3 hx eR hA lR HA HL hle
      go_wp2_with fail
      refine C.out.mono ?_
      rintro e w2 ⟨rfl, Z, z1, z2, o2, b2⟩
      have NC : Hid (∀ C ∈ Cs ++ [Z], C.length = 20) := by
        intro C hC
        rcases List.mem_append.1 hC with hC | hC
        · exact HC.out C hC
        · rw [List.mem_singleton.1 hC]; exact (LF.out Z z1).1
      have NA := Lib.hid (HA2.out.next z1 z2)
      have NL : Hid (b + (R.drop 20).length = N ∧ (Cs ++ [Z]).flatten.length = b) := Lib.hid ⟨LX.out, (LF.out Z z1).2⟩
      have O2 : Hid (OwnT w2 base (.slice (some ⟨g, 0, none⟩) N c) ((Cs ++ [Z]).flatten ++ R.drop 20)) := by
        show OwnQ _ _ _ _ _
        simp only [List.flatten_append, List.flatten_cons, List.flatten_nil, List.append_nil, List.append_assoc]
        exact o2
      have B2 := Lib.hid (HB.out.trans b2)
      clear C o2 b2 z1 z2 HB HO
      go_wp2_with fail
      go_roundw
      case rel => exact ⟨b, b + 20, Cs ++ [Z], R.drop 20, rfl, by go_num, Lib.hid ⟨rfl, NL.out⟩, NC, NA, O2, B2⟩
      case measure => have := MB.out; simp [intOf]; omega
    · have d : decide (b ≤ N) = false := by rw [decide_eq_false_iff_not]; exact hle
      have hA : Ahd cfT ltT L0 Cs (R ++ []) := by rw [List.append_nil]; exact HA.out
      have C := Lib.hid (ins_any base g c N a N Cs.flatten R [] l3 l2 (by simp) hN2 hA.opn_head wr (by rw [List.append_nil]; exact HO.out) HSW.out)
      have KB : Hid (∀ Z : List Tg, Z.Perm R → Z.Pairwise ltT → ∃ Bs, Bs.flatten = Cs.flatten ++ Z ∧ BL 20 Bs ∧ Blk cfT ltT L0 Bs) := by
        intro Z z1 z2
        rcases Nat.eq_zero_or_pos R.length with h0 | h0
        · have hR : R = [] := List.length_eq_zero_iff.1 h0
          subst hR
          have hZ : Z = [] := List.length_eq_zero_iff.1 (by rw [z1.length_eq]; rfl)
          subst hZ
          exact ⟨Cs, by simp, by have := bl_app (E := []) (by decide : 0 < 20) trivial HC.out; rwa [List.append_nil] at this, HA.out.blk⟩
        · refine ⟨Cs ++ [Z], by simp, bl_app (by decide) ⟨by rw [z1.length_eq]; exact h0, by rw [z1.length_eq]; omega⟩ HC.out, (hA.next z1 z2).blk⟩
      have ba : a ≤ 100000000 := by omega
      clear l1 l2 l3 hA HA HL hle HC
      go_wp2_with fail
      refine C.out.mono ?_
      rintro e w2 ⟨rfl, Z, z1, z2, o2, b2⟩
      obtain ⟨Bs, k1, k2, k3⟩ := KB.out Z z1 z2
      have K2 := Lib.hid k2
      have K3 := Lib.hid k3
      have O2 : Hid (OwnT w2 base (.slice (some ⟨g, 0, none⟩) N c) Bs.flatten) := by
        show OwnQ _ _ _ _ _
        rw [k1]
        rw [List.append_nil] at o2
        exact o2
      have B2 := Lib.hid (HB.out.trans b2)
      clear C o2 b2 z1 z2 HB HO HSW KB k1 k2 k3
      go_wp2_with fail
      go_loopw [6] (fun s wr => ∃ (s' : Nat) (Bs : List (List Tg)), s = .int .i64 (s' : Int) ∧ 20 ≤ s' ∧ s' ≤ 200000020 ∧ Hid (BL s' Bs) ∧ Hid (Blk cfT ltT L0 Bs) ∧ Hid (OwnT wr base (.slice (some ⟨g, 0, none⟩) N c) Bs.flatten) ∧ Hid (RowKit.Below base w wr)) (fun s _ => N - (intOf s).toNat)
      case atStart => exact ⟨20, Bs, rfl, by omega, by omega, K2, K3, O2, B2⟩
      case round =>
        clear K2 K3 O2 B2
        obtain ⟨s, Bs, rfl, s1, s2, HL, HK, HO, HB⟩ := hrel
        by_cases hlt : s < N
        · have gi : (s : Int) < (N : Int) := by omega
          obtain ⟨t, ht⟩ : ∃ t, 2 * s = t := ⟨_, rfl⟩
          have et : 2 * (s : Int) = (t : Int) := by omega
          have et' : (s : Int) * 2 = (t : Int) := by omega
          have HT := Lib.hid ht
          have bt : t ≤ 200000020 := by omega
          have HBN : Hid (∀ {W : World} {l : List Tg}, OwnT W base (.slice (some ⟨g, 0, none⟩) N c) l → l.length = N) := Lib.hid fun h => own_len h
          have MS : Hid (s < N ∧ s < t) := by refine ⟨?_, ?_⟩ <;> omega
          clear ht
          go_wp2_with fail
          go_loopw [7, 8] (fun a b wr => ∃ (a' b' : Nat) (D E : List (List Tg)), a = .int .i64 (a' : Int) ∧ b = .int .i64 (b' : Int) ∧ b' ≤ 300000030 ∧ Hid (a' + t = b' ∧ D.flatten.length = a') ∧ Hid (∀ C ∈ D, C.length = t) ∧ Hid (BL s E) ∧ Hid (Blk cfT ltT L0 (D ++ E)) ∧ Hid (OwnT wr base (.slice (some ⟨g, 0, none⟩) N c) (D ++ E).flatten) ∧ Hid (RowKit.Below base w wr)) (fun _ b _ => N + t - (intOf b).toNat)
          case atStart => exact ⟨0, t, [], Bs, rfl, rfl, by omega, Lib.hid ⟨Nat.zero_add t, rfl⟩, Lib.hid (fun C hC => absurd hC List.not_mem_nil), HL, HK, HO, HB⟩
          case round =>
            clear HL HK HO HB
            obtain ⟨a, b, D, E, rfl, rfl, bb, HL, HD, HE, HK, HO, HB⟩ := hrel
            have HSW : Hid (base ≤ wr.heap.size) := Nat.le_trans HS.out HB.out.size
            have hlen := HBN.out HO.out
            rw [List.flatten_append, List.length_append] at hlen
            by_cases hle : b ≤ N
            · have gb : (b : Int) ≤ (N : Int) := by omega
              obtain ⟨X, Y, E', rfl, x1, y1, y2, y3, y4⟩ := bl_two (by omega) HE.out (by have := HL.out; have := HT.out; omega)
              have yl : Y.length = s := by
                by_cases hE : E' = []
                · subst hE
                  simp only [List.flatten_cons, List.flatten_nil, List.append_nil, List.length_append] at hlen
                  have := HL.out; have := HT.out
                  omega
                · exact y4 hE
              obtain ⟨m, hm⟩ : ∃ m, a + s = m := ⟨_, rfl⟩
              have em : (a : Int) + (s : Int) = (m : Int) := by omega
              have l1 := HL.out
              have l2 := HT.out
              simp only [List.flatten_cons, List.length_append] at hlen
              obtain ⟨o1, o2, o3⟩ := HK.out.open
              have hb3 : m + Y.length = b := by omega
              have C := Lib.hid (sym_all base g c N hN2 (X.length + Y.length) a m b D.flatten X Y E'.flatten (Nat.le_refl _) l1.2 (by omega) hb3 (by omega) (by omega) y1 o1 o2 o3 wr (by have := HO.out; simp only [List.flatten_append, List.flatten_cons] at this; exact this) HSW.out)
              obtain ⟨b2, hb2⟩ : ∃ b2, b + t = b2 := ⟨_, rfl⟩
              have eb : (b : Int) + (t : Int) = (b2 : Int) := by omega
              have ba : a ≤ 100000000 := by omega
              have bm : m ≤ 100000000 := by omega
              have NL : Hid (b + t = b2) := Lib.hid hb2
              have bb2 : b2 ≤ 300000030 := by omega
              have ZL : Hid (∀ Z : List Tg, Z.Perm (X ++ Y) → Z.length = t ∧ (D ++ [Z]).flatten.length = b) := by
                intro Z hZ
                have : Z.length = t := by rw [hZ.length_eq, List.length_append]; omega
                refine ⟨this, ?_⟩
                simp only [List.flatten_append, List.flatten_cons, List.flatten_nil, List.length_append, List.length_nil]
                omega
              have HE2 := Lib.hid y3
              have MB : Hid (b ≤ N ∧ b < b2) := by refine ⟨hle, ?_⟩; omega
              clear hlen x1 y1 y2 y3 y4 yl hm l1 l2 o1 o2 o3 hb3 hb2 hle HE HL
              go_wp2_with fail
              refine C.out.mono ?_
              rintro e w2 ⟨rfl, Z, z1, z2, o2, b2'⟩
              have ND : Hid (∀ C ∈ D ++ [Z], C.length = t) := by
                intro C hC
                rcases List.mem_append.1 hC with hC | hC
                · exact HD.out C hC
                · rw [List.mem_singleton.1 hC]; exact (ZL.out Z z1).1
              have NK : Hid (Blk cfT ltT L0 ((D ++ [Z]) ++ E')) := by
                have := HK.out.merge z1 z2
                show Blk _ _ _ _
                rw [List.append_assoc]
                exact this
              have NX : Hid (b + t = b2 ∧ (D ++ [Z]).flatten.length = b) := Lib.hid ⟨NL.out, (ZL.out Z z1).2⟩
              have O2 : Hid (OwnT w2 base (.slice (some ⟨g, 0, none⟩) N c) ((D ++ [Z]) ++ E').flatten) := by
                show OwnQ _ _ _ _ _
                simp only [List.flatten_append, List.flatten_cons, List.flatten_nil, List.append_nil, List.append_assoc]
                exact o2
              have B2 := Lib.hid (HB.out.trans b2')
              clear C o2 b2' z1 z2 HB HO HK HD
              go_wp2_with fail
              go_roundw
              case rel => exact ⟨b, b2, D ++ [Z], E', rfl, rfl, bb2, NX, ND, HE2, NK, O2, B2⟩
              case measure => have := MB.out; simp [intOf]; omega
            · have d2 : decide (b ≤ N) = false := by rw [decide_eq_false_iff_not]; exact hle
              have l1 := HL.out
              have l2 := HT.out
              obtain ⟨m, hm⟩ : ∃ m, a + s = m := ⟨_, rfl⟩
              have em : (a : Int) + (s : Int) = (m : Int) := by omega
              have ba : a ≤ 100000000 := by omega
              have bm : m ≤ 300000000 := by omega
              by_cases hmN : m < N
              · have gm : (m : Int) < (N : Int) := by omega
                obtain ⟨X, Y, E', rfl, x1, y1, y2, y3, y4⟩ := bl_two (by omega) HE.out (by omega)
                have hE : E' = [] := by
                  by_cases hE : E' = []
                  · exact hE
                  · exfalso
                    have h4 := y4 hE
                    match E', hE, y3 with
                    | Z :: r, _, h5 =>
                      have h6 := (bl_cons h5 (by omega)).1
                      simp only [List.flatten_cons, List.length_append] at hlen
                      omega
                subst hE
                simp only [List.flatten_cons, List.flatten_nil, List.append_nil, List.length_append] at hlen
                obtain ⟨o1, o2, o3⟩ := HK.out.open
                have C := Lib.hid (sym_all base g c N hN2 (X.length + Y.length) a m N D.flatten X Y [] (Nat.le_refl _) l1.2 (by omega) (by omega) (by simp) (by omega) y1 o1 o2 o3 wr (by have := HO.out; simp only [List.flatten_append, List.flatten_cons, List.flatten_nil] at this; exact this) HSW.out)
                have ZL : Hid (∀ Z : List Tg, Z.Perm (X ++ Y) → BL t [Z]) := by
                  intro Z hZ
                  have : Z.length = X.length + Y.length := by rw [hZ.length_eq, List.length_append]
                  exact ⟨by omega, by omega⟩
                have bt0 : 0 < t := by omega
                clear hlen x1 y1 y2 y3 y4 hm l1 l2 o1 o2 o3 hle HE HL hmN
                go_wp2_with fail
                refine C.out.mono ?_
                rintro e w2 ⟨rfl, Z, z1, z2, o2, b2'⟩
                have NB : Hid (BL t (D ++ [Z])) := bl_app bt0 (ZL.out Z z1) HD.out
                have NK : Hid (Blk cfT ltT L0 (D ++ [Z])) := HK.out.merge z1 z2
                have O2 : Hid (OwnT w2 base (.slice (some ⟨g, 0, none⟩) N c) (D ++ [Z]).flatten) := by
                  show OwnQ _ _ _ _ _
                  simp only [List.flatten_append, List.flatten_cons, List.flatten_nil]
                  exact o2
                have B2 := Lib.hid (HB.out.trans b2')
                clear C o2 b2' z1 z2 HB HO HK HD ZL bt0
                go_wp2_with fail
                go_roundw
                case rel => exact ⟨t, D ++ [Z], rfl, by have := HT.out; omega, bt, NB, NK, O2, B2⟩
                case measure => have := MS.out; simp [intOf]; omega
              · have d3 : decide (m < N) = false := by rw [decide_eq_false_iff_not]; exact hmN
                have NB : Hid (BL t (D ++ E)) := bl_app (by omega) (bl_few (by omega) (by omega) HE.out (by omega)) HD.out
                clear hlen hm l1 l2 hle HE HL hmN
                go_wp2_with fail
                go_roundw
                case rel => exact ⟨t, D ++ E, rfl, by have := HT.out; omega, bt, NB, HK, HO, HB⟩
                case measure => have := MS.out; simp [intOf]; omega
        · have d2 : decide (s < N) = false := by rw [decide_eq_false_iff_not]; exact hlt
          have K : Hid (∃ L, L.Perm L0 ∧ L.Pairwise ltT ∧ OwnT wr base (.slice (some ⟨g, 0, none⟩) N c) L ∧ RowKit.Below base w wr) := by
            obtain ⟨k1, k2⟩ := HK.out.one (by omega) HL.out (by have := HN.out; omega)
            exact ⟨Bs.flatten, k1, k2, HO.out, HB.out⟩
          clear hlt HL HK HO HB
          go_wp2_with fail
          go_end0
          exact ⟨rfl, K.out⟩
end Go.Proofs.Ytibakhobgfiklaa
