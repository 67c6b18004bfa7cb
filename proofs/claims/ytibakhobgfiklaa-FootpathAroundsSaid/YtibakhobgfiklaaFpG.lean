/-
  Two sorted parts of a row of footpaths merged in place (SymMerge). Condition: rows of at most 100000000 elements.
-/
import Derived.Test.YtibakhobgfiklaaFpL
import Derived.Deep.DeepCutAuto
namespace Go.Proofs.Ytibakhobgfiklaa
open Go.RowKit Go.Sort

/-- What a merge of so many elements answers. -/
def SymC (base g c N M : Nat) : Prop := ∀ (a m b : Nat) (A X Y B : List Tg), X.length + Y.length ≤ M → A.length = a → a + X.length = m → m + Y.length = b → b + B.length = N → 0 < X.length → 0 < Y.length → X.Pairwise ltT → Y.Pairwise ltT → Crs cfT ltT X Y → ∀ w : World,
    OwnT w base (.slice (some ⟨g, 0, none⟩) N c) (A ++ (X ++ (Y ++ B))) → base ≤ w.heap.size →
    Calls Try.prog 79 #[.slice (some ⟨g, 0, none⟩) N c, .int .i64 (a : Int), .int .i64 (m : Int), .int .i64 (b : Int), cmpV] w fun e w' =>
      e = .returned (.tuple #[]) ∧ ∃ Z, Z.Perm (X ++ Y) ∧ Z.Pairwise ltT ∧ OwnT w' base (.slice (some ⟨g, 0, none⟩) N c) (A ++ (Z ++ B)) ∧ RowKit.Below base w w'
/-- Where a merge's search begins and ends. -/
def Srch (a m b mid lo hi : Nat) : Prop := (mid < m ∧ lo + b = mid + m ∧ hi = mid) ∨ (m ≤ mid ∧ lo = a ∧ hi = m)
theorem Srch.bounds {a m b mid lo hi : Nat} (h : Srch a m b mid lo hi) (h1 : a < m) (h2 : m < b) (hm : (a + b) / 2 = mid) : a ≤ lo ∧ hi ≤ m ∧ hi ≤ mid ∧ lo ≤ hi ∧ mid + m ≤ lo + b := by
  rcases h with ⟨h3, h4, h5⟩ | ⟨h3, h4, h5⟩ <;> refine ⟨?_, ?_, ?_, ?_, ?_⟩ <;> omega
/-- What the search has found below and above. -/
def FlA (X Y : List Tg) (a mid lo s : Nat) : Prop := s = lo ∨ ∃ x y, X[s - 1 - a]? = some x ∧ Y[mid - s]? = some y ∧ ltT x y
def FlB (X Y : List Tg) (a mid hi r : Nat) : Prop := r = hi ∨ ∃ x y, X[r - a]? = some x ∧ Y[mid - 1 - r]? = some y ∧ ltT y x
theorem srch_split {X Y : List Tg} {a m b mid lo hi s : Nat} (h : Srch a m b mid lo hi) (hX : a + X.length = m) (hY : m + Y.length = b) (hs : lo ≤ s ∧ s ≤ hi) (hb : a ≤ lo ∧ hi ≤ m ∧ hi ≤ mid ∧ lo ≤ hi ∧ mid + m ≤ lo + b) (fa : FlA X Y a mid lo s) (fb : FlB X Y a mid hi s) (sX : X.Pairwise ltT) (sY : Y.Pairwise ltT) :
    ∀ u ∈ X.take (s - a) ++ Y.take (mid - s), ∀ v ∈ X.drop (s - a) ++ Y.drop (mid - s), ltT u v := by
  refine sm_split ordT sX sY (by omega) ?_ ?_
  · rcases fa with rfl | ⟨x, y, hx, hy, hlt⟩
    · rcases h with ⟨h3, h4, h5⟩ | ⟨h3, h4, h5⟩
      · exact .inr (.inl (by omega))
      · exact .inl (by omega)
    · exact .inr (.inr ⟨x, y, by rw [show s - a - 1 = s - 1 - a by omega]; exact hx, hy, hlt⟩)
  · rcases fb with rfl | ⟨x, y, hx, hy, hlt⟩
    · rcases h with ⟨h3, h4, h5⟩ | ⟨h3, h4, h5⟩
      · exact .inl (by omega)
      · exact .inr (.inl (by omega))
    · exact .inr (.inr ⟨x, y, hx, by rw [show mid - s - 1 = mid - 1 - s by omega]; exact hy, hlt⟩)
set_option maxRecDepth 100000 in
set_option maxHeartbeats 4000000 in
theorem sym_step (base g c N M : Nat) (hN2 : N ≤ 100000000) (IH : SymC base g c N M) (a m b n1 n2 : Nat) (A X Y B : List Tg) (hM : n1 + n2 ≤ M + 1) (hA : A.length = a) (hn1 : X.length = n1) (hn2 : Y.length = n2) (h11 : 1 < n1) (h21 : 1 < n2) (hX : a + n1 = m) (hY : m + n2 = b) (hN : b + B.length = N)
    (sX : X.Pairwise ltT) (sY : Y.Pairwise ltT) (cr : Crs cfT ltT X Y) (w : World) (h : OwnT w base (.slice (some ⟨g, 0, none⟩) N c) (A ++ (X ++ (Y ++ B)))) (hs : base ≤ w.heap.size) :
    Calls Try.prog 79 #[.slice (some ⟨g, 0, none⟩) N c, .int .i64 (a : Int), .int .i64 (m : Int), .int .i64 (b : Int), cmpV] w fun e w' =>
      e = .returned (.tuple #[]) ∧ ∃ Z, Z.Perm (X ++ Y) ∧ Z.Pairwise ltT ∧ OwnT w' base (.slice (some ⟨g, 0, none⟩) N c) (A ++ (Z ++ B)) ∧ RowKit.Below base w w' := by
  have HS := Lib.hid hs
  have H := Lib.hid h
  have HI := Lib.hid IH
  have SX := Lib.hid sX
  have SY := Lib.hid sY
  have CR := Lib.hid cr
  obtain ⟨mid, hmid⟩ : ∃ mid, (a + b) / 2 = mid := ⟨_, rfl⟩
  obtain ⟨lo, hi, hsr⟩ : ∃ lo hi, Srch a m b mid lo hi := by
    by_cases hm : mid < m
    · exact ⟨mid + m - b, mid, .inl ⟨hm, by omega, rfl⟩⟩
    · exact ⟨a, m, .inr ⟨by omega, rfl, rfl⟩⟩
  have hbd := hsr.bounds (by omega) (by omega) hmid
  have am : a < m := by omega
  have mb : m < b := by omega
  have bb : b ≤ N := by omega
  have md1 : a < mid := by omega
  have md2 : mid < b := by omega
  have SR := Lib.hid hsr
  have BD := Lib.hid hbd
  have DD : Hid (A.length = a ∧ a + X.length = m ∧ m + Y.length = b ∧ b + B.length = N ∧ X.length + Y.length ≤ M + 1) := by refine ⟨hA, ?_, ?_, hN, ?_⟩ <;> omega
  have e0 : (m : Int) - (a : Int) = (n1 : Int) := by omega
  have t0 : ((n1 : Int) == 1) = false := beq_false (by omega)
  have e1 : (b : Int) - (m : Int) = (n2 : Int) := by omega
  have t1 : ((n2 : Int) == 1) = false := beq_false (by omega)
  have bn1 : n1 ≤ 100000000 := by omega
  have bn2 : n2 ≤ 100000000 := by omega
  have em : ((a : Int) + (b : Int)) / 2 = (mid : Int) := by omega
  obtain ⟨n, hn⟩ : ∃ n, mid + m = n := ⟨_, rfl⟩
  have en : (mid : Int) + (m : Int) = (n : Int) := by omega
  have bn : n ≤ 200000000 := by omega
  have NN := Lib.hid hn
  obtain ⟨p, hp⟩ : ∃ p, n = p + 1 := ⟨n - 1, by omega⟩
  have ep : (n : Int) - 1 = (p : Int) := by omega
  have PP := Lib.hid hp
  have MD : Hid (a < mid ∧ mid < b ∧ a < m ∧ m < b ∧ b ≤ N) := Lib.hid ⟨md1, md2, am, mb, bb⟩
  have bp : p ≤ 200000000 := by omega
  have blo : lo ≤ 100000000 := by omega
  have bhi : hi ≤ 100000000 := by omega
  clear h hs IH sX sY cr hsr hbd hA hN hX hY hM hn1 hn2 h11 h21 hmid hn hp am mb
  go_enter Try.func79, Try.ntmps79
  go_upto_if 140 with fail
  go_cut [20, 21] (fun s5 s6 wx => s5 = .int .i64 (lo : Int) ∧ s6 = .int .i64 (hi : Int) ∧ wx = w)
  case first => as_aux_lemma =>
    rcases SR.out with ⟨h3, h4, h5⟩ | ⟨h3, h4, h5⟩
    · have g1 : (mid : Int) < (m : Int) := by omega
      have e3 : (n : Int) - (b : Int) = (lo : Int) := by have := NN.out; omega
      have E5 := Lib.hid h5
      clear h3 h4 h5
      go_wp2_with fail
      go_meet
      exact ⟨rfl, by rw [E5.out], rfl⟩
    · have d1 : decide (mid < m) = false := by rw [decide_eq_false_iff_not]; omega
      have d1' : ¬ ((mid : Int) < (m : Int)) := by omega
      have d1'' : ¬ (mid < m) := by omega
      have E4 := Lib.hid h4
      have E5 := Lib.hid h5
      clear h3 h4 h5
      go_wp2_with fail
      go_meet
      exact ⟨by rw [E4.out], by rw [E5.out], rfl⟩
  case rest =>
  obtain ⟨rfl, rfl, hw⟩ := hcut
  have hw' := hw.symm
  subst hw'
  clear hw
  go_wp2_with fail
  clear e0 t0 e1 t1 em en ep
  go_loopw [20, 21] (fun s r wr => ∃ s' r' : Nat, s = .int .i64 (s' : Int) ∧ r = .int .i64 (r' : Int) ∧ Hid (lo ≤ s' ∧ s' ≤ r' ∧ r' ≤ hi) ∧ Hid (FlA X Y a mid lo s') ∧ Hid (FlB X Y a mid hi r') ∧ Hid (OwnT wr base (.slice (some ⟨g, 0, none⟩) N c) (A ++ (X ++ (Y ++ B)))) ∧ Hid (RowKit.Below base w wr)) (fun s r _ => (intOf r).toNat - (intOf s).toNat)
  case atStart => exact ⟨lo, hi, rfl, rfl, Lib.hid ⟨Nat.le_refl _, BD.out.2.2.2.1, Nat.le_refl _⟩, Lib.hid (.inl rfl), Lib.hid (.inl rfl), H, Lib.hid (RowKit.Below.refl _ _)⟩
  case round =>
    clear H
    obtain ⟨s, r, rfl, rfl, HL, FA, FB, HO, HB⟩ := hrel
    obtain ⟨l1, l2, l3⟩ := HL.out
    have HSW : Hid (base ≤ wr.heap.size) := Nat.le_trans HS.out HB.out.size
    have br : r ≤ 100000000 := by omega
    by_cases hlt : s < r
    · have gi : (s : Int) < (r : Int) := by omega
      obtain ⟨k, hk⟩ : ∃ k, (s + r) / 2 = k := ⟨_, rfl⟩
      have ek : ((s : Int) + (r : Int)) / 2 = (k : Int) := by omega
      have k1 : s ≤ k := by omega
      have k2 : k < r := by omega
      obtain ⟨d1, d2, d3, d4, -⟩ := DD.out
      obtain ⟨c1, c2, c3, c4, c5⟩ := BD.out
      have n1 := NN.out
      have n2 := PP.out
      obtain ⟨x, hx⟩ := at_lt (show k - a < X.length by omega)
      obtain ⟨y, hy⟩ := at_lt (show mid - 1 - k < Y.length by omega)
      obtain ⟨e, he⟩ : ∃ e, p - k = e := ⟨_, rfl⟩
      have a1 := (seg_x (R := Y ++ B) d1 (show k - a < X.length by omega) (show a + (k - a) = k by omega)).trans hx
      have a2 := (seg_y (R := B) d1 d2 (show mid - 1 - k < Y.length by omega) (show m + (mid - 1 - k) = e by omega)).trans hy
      obtain ⟨X0, X1, X2, X3⟩ := cells_grown HO.out a1
      obtain ⟨Y0, Y1, Y2, Y3⟩ := cells_grown HO.out a2
      have D := Lib.hid (fun d os => Calls.regrown_of (w := wr) (d := d) (os := os) (cmp_at y.1 x.1 _))
      have gk : (k : Int) < (N : Int) := by omega
      have ge : (e : Int) < (N : Int) := by omega
      have we : IntKind.i64.wrap ((p : Int) - (k : Int)) = (e : Int) := by rw [IntKind.wrap_i64]; omega
      have ee : (p : Int) - (k : Int) = (e : Int) := by omega
      have fe0 : (0 : Int) ≤ (e : Int) := by omega
      obtain ⟨q, hq⟩ : ∃ q, cfP y.1 x.1 = q := ⟨_, rfl⟩
      rw [hq] at D
      have MK : Hid (s ≤ k ∧ k < r) := Lib.hid ⟨k1, k2⟩
      have bk : k + 1 ≤ 100000000 := by omega
      by_cases hr0 : q < 0
      · as_aux_lemma =>
        have NL : Hid (lo ≤ s ∧ s ≤ k ∧ k ≤ hi) := by refine ⟨?_, ?_, ?_⟩ <;> omega
        have NB : Hid (FlB X Y a mid hi k) := .inr ⟨x, y, hx, hy, ordT.less (by show cfP y.1 x.1 < 0; rw [hq]; exact hr0)⟩
        clear l1 l2 l3 hq hx hy a1 a2 hlt k1 k2 HL FB d1 d2 d3 d4 c1 c2 c3 c4 c5 n1 n2 he hk
        go_wp2_with fail
        refine wp_region_quiet_below (by kernel_rfl) (by kernel_rfl) ?_
        repeat (go_big_quiet_step (with_reducible exact D.out _ _))
        refine wpQuiet_nil ?_
        intro w4 hw4
        obtain ⟨b4, c4⟩ := grown_below HB.out HSW.out hw4
        have O4 := Lib.hid (HO.out.below c4)
        have B4 := Lib.hid b4
        clear hw4 b4 c4 D HB HO X0 X1 X2 X3 Y0 Y1 Y2 Y3 hr0 ek we ee fe0 ge
        go_wp2_with fail
        go_roundw
        case rel => exact ⟨s, k, rfl, rfl, NL, FA, NB, O4, B4⟩
        case measure => have := MK.out; simp [intOf]; omega
      · as_aux_lemma =>
        have dq : decide (q < 0) = false := decide_eq_false hr0
        have NL : Hid (lo ≤ k + 1 ∧ k + 1 ≤ r ∧ r ≤ hi) := by refine ⟨?_, ?_, ?_⟩ <;> omega
        have NA : Hid (FlA X Y a mid lo (k + 1)) := .inr ⟨x, y, by rw [show k + 1 - 1 - a = k - a by omega]; exact hx, by rw [show mid - (k + 1) = mid - 1 - k by omega]; exact hy, ordT.tie (by show ¬ cfP y.1 x.1 < 0; rw [hq]; exact hr0) (CR.out x (List.mem_iff_getElem?.2 ⟨_, hx⟩) y (List.mem_iff_getElem?.2 ⟨_, hy⟩))⟩
        clear l1 l2 l3 hq hx hy a1 a2 hlt k1 k2 HL FA d1 d2 d3 d4 c1 c2 c3 c4 c5 n1 n2 he hk hr0
        go_wp2_with fail
        refine wp_region_quiet_below (by kernel_rfl) (by kernel_rfl) ?_
        repeat (go_big_quiet_step (with_reducible exact D.out _ _))
        refine wpQuiet_nil ?_
        intro w4 hw4
        obtain ⟨b4, c4⟩ := grown_below HB.out HSW.out hw4
        have O4 := Lib.hid (HO.out.below c4)
        have B4 := Lib.hid b4
        clear hw4 b4 c4 D HB HO X0 X1 X2 X3 Y0 Y1 Y2 Y3 dq ek we ee fe0 ge
        go_wp2_with fail
        go_roundw
        case rel => exact ⟨k + 1, r, by go_num, rfl, NL, NA, FB, O4, B4⟩
        case measure => have := MK.out; simp [intOf]; omega
    · have d : decide (s < r) = false := by rw [decide_eq_false_iff_not]; exact hlt
      obtain rfl : s = r := by omega
      have SP := Lib.hid (srch_split SR.out DD.out.2.1 DD.out.2.2.1 ⟨l1, l3⟩ BD.out FA.out FB.out SX.out SY.out)
      obtain ⟨e, he⟩ : ∃ e, n - s = e := ⟨_, rfl⟩
      obtain ⟨d1, d2, d3, d4, d5⟩ := DD.out
      obtain ⟨c1, c2, c3, c4, c5⟩ := BD.out
      obtain ⟨m1, m2, m3, m4, m5⟩ := MD.out
      have n1 := NN.out
      have ee : (n : Int) - (s : Int) = (e : Int) := by omega
      have be : e ≤ 100000000 := by omega
      obtain ⟨X1, hX1⟩ : ∃ X1, X.take (s - a) = X1 := ⟨_, rfl⟩
      obtain ⟨X2, hX2⟩ : ∃ X2, X.drop (s - a) = X2 := ⟨_, rfl⟩
      obtain ⟨Y1, hY1⟩ : ∃ Y1, Y.take (mid - s) = Y1 := ⟨_, rfl⟩
      obtain ⟨Y2, hY2⟩ : ∃ Y2, Y.drop (mid - s) = Y2 := ⟨_, rfl⟩
      have eX : X1 ++ X2 = X := by rw [← hX1, ← hX2]; exact List.take_append_drop _ _
      have eY : Y1 ++ Y2 = Y := by rw [← hY1, ← hY2]; exact List.take_append_drop _ _
      have lX1 : a + X1.length = s := by rw [← hX1, List.length_take]; omega
      have lX2 : s + X2.length = m := by rw [← hX2, List.length_drop]; omega
      have lY1 : m + Y1.length = e := by rw [← hY1, List.length_take]; omega
      have lY2 : e + Y2.length = b := by rw [← hY2, List.length_drop]; omega
      have e2 : s + Y1.length = mid := by omega
      have e3 : mid + X2.length = e := by omega
      rw [hX1, hX2, hY1, hY2] at SP
      have sx := SX.out
      have sy := SY.out
      have cr := CR.out
      rw [← eX] at sx cr
      rw [← eY] at sy cr
      obtain ⟨sx1, sx2, -⟩ := List.pairwise_append.1 sx
      obtain ⟨sy1, sy2, -⟩ := List.pairwise_append.1 sy
      have cr1 : Crs cfT ltT X1 Y1 := cr.sub (fun _ h => List.mem_append_left _ h) (fun _ h => List.mem_append_left _ h)
      have cr2 : Crs cfT ltT X2 Y2 := cr.sub (fun _ h => List.mem_append_right _ h) (fun _ h => List.mem_append_right _ h)
      have HEQ : Hid (X1 ++ X2 = X ∧ Y1 ++ Y2 = Y) := Lib.hid ⟨eX, eY⟩
      have LEN : Hid (a + X1.length = s ∧ s + X2.length = m ∧ m + Y1.length = e ∧ e + Y2.length = b ∧ s + Y1.length = mid ∧ mid + X2.length = e ∧ A.length = a ∧ b + B.length = N) := by refine ⟨?_, ?_, ?_, ?_, ?_, ?_, ?_, ?_⟩ <;> omega
      have SS1 : Hid (X1.Pairwise ltT ∧ Y1.Pairwise ltT ∧ Crs cfT ltT X1 Y1) := Lib.hid ⟨sx1, sy1, cr1⟩
      have SS2 : Hid (X2.Pairwise ltT ∧ Y2.Pairwise ltT ∧ Crs cfT ltT X2 Y2) := Lib.hid ⟨sx2, sy2, cr2⟩
      have O5 : Hid (OwnT wr base (.slice (some ⟨g, 0, none⟩) N c) ((A ++ X1) ++ (X2 ++ (Y1 ++ (Y2 ++ B))))) := by
        show OwnQ _ _ _ _ _
        have := HO.out
        rw [← eX, ← eY] at this
        simp only [List.append_assoc] at this ⊢
        exact this
      have M1 : Hid (X1.length + Y1.length ≤ M ∧ X2.length + Y2.length ≤ M) := by refine ⟨?_, ?_⟩ <;> omega
      obtain ⟨tR, htR⟩ : ∃ t, decide (s < m ∧ m < e) = t := ⟨_, rfl⟩
      obtain ⟨tL, htL⟩ : ∃ t, decide (a < s ∧ s < mid) = t := ⟨_, rfl⟩
      obtain ⟨tQ, htQ⟩ : ∃ t, decide (mid < e ∧ e < b) = t := ⟨_, rfl⟩
      have TR := Lib.hid htR
      have TL := Lib.hid htL
      have TQ := Lib.hid htQ
      clear hlt l1 l2 l3 HL FA FB HO d1 d2 d3 d4 d5 c1 c2 c3 c4 c5 m1 m2 m3 m4 m5 n1 hX1 hX2 hY1 hY2 eX eY lX1 lX2 lY1 lY2 e2 e3 sx sy cr sx1 sx2 sy1 sy2 cr1 cr2 htR htL htQ he
      go_upto_region 39 with fail
      go_cut [185] (fun v wx => v = .bool tR ∧ wx = wr)
      case first => as_aux_lemma =>
        by_cases h1 : s < m
        · by_cases h2 : m < e
          · have E : Hid (true = tR) := by have := TR.out; rw [decide_eq_true ⟨h1, h2⟩] at this; exact this
            go_wp2_with fail
            go_meet
            exact ⟨by rw [← E.out], rfl⟩
          · have E : Hid (false = tR) := by have := TR.out; rw [decide_eq_false (fun h => h2 h.2)] at this; exact this
            have d2 : decide (m < e) = false := decide_eq_false h2
            clear h2
            go_wp2_with fail
            go_meet
            exact ⟨by rw [← E.out], rfl⟩
        · have E : Hid (false = tR) := by have := TR.out; rw [decide_eq_false (fun h => h1 h.1)] at this; exact this
          have d2 : decide (s < m) = false := decide_eq_false h1
          clear h1
          go_wp2_with fail
          go_meet
          exact ⟨by rw [← E.out], rfl⟩
      case rest =>
      obtain ⟨rfl, rfl⟩ := hcut
      go_upto_if 185 with fail
      go_cut [] (fun wx => Hid (OwnT wx base (.slice (some ⟨g, 0, none⟩) N c) (A ++ (X1 ++ (Y1 ++ (X2 ++ (Y2 ++ B)))))) ∧ Hid (RowKit.Below base w wx))
      case first => as_aux_lemma =>
        cases tR with
        | true =>
          have hR : s < m ∧ m < e := of_decide_eq_true TR.out
          have l := LEN.out
          have C := Lib.hid (rot_any Prod.fst cmpV base g c N s m e (A ++ X1) X2 Y1 (Y2 ++ B) (by rw [List.length_append]; omega) l.2.1 l.2.2.1 (by omega) (by omega) (by rw [List.length_append]; omega) hN2 wc O5.out HSW.out)
          clear l hR
          go_wp2_with fail
          refine C.out.mono ?_
          rintro e w6 ⟨rfl, o6, b6⟩
          have O6 : Hid (OwnT w6 base (.slice (some ⟨g, 0, none⟩) N c) (A ++ (X1 ++ (Y1 ++ (X2 ++ (Y2 ++ B)))))) := by
            show OwnQ _ _ _ _ _
            rw [List.append_assoc] at o6
            exact o6
          have B6 := Lib.hid (HB.out.trans b6)
          clear C o6 b6
          go_wp2_with fail
          go_meet
          exact ⟨O6, B6⟩
        | false =>
          have hR : ¬ (s < m ∧ m < e) := of_decide_eq_false TR.out
          have O6 : Hid (OwnT wc base (.slice (some ⟨g, 0, none⟩) N c) (A ++ (X1 ++ (Y1 ++ (X2 ++ (Y2 ++ B)))))) := by
            have l := LEN.out
            have o6 := O5.out
            show OwnQ _ _ _ _ _
            rw [List.append_assoc] at o6
            by_cases h0 : s < m
            · have : Y1 = [] := List.length_eq_zero_iff.1 (by omega)
              subst this
              exact o6
            · have : X2 = [] := List.length_eq_zero_iff.1 (by omega)
              subst this
              exact o6
          clear hR
          go_wp2_with fail
          go_meet
          exact ⟨O6, HB⟩
      case rest =>
      obtain ⟨O6, B6⟩ := hcut
      clear O5 HB HSW
      have HSW : Hid (base ≤ wc.heap.size) := Nat.le_trans HS.out B6.out.size
      go_upto_region 41 with fail
      obtain ⟨wk, hwk⟩ : ∃ W, wc = W := ⟨_, rfl⟩
      rw [hwk] at O6 B6 HSW ⊢
      clear hwk
      go_cut [199] (fun v wx => v = .bool tL ∧ wx = wk)
      case first => as_aux_lemma =>
        by_cases h1 : a < s
        · by_cases h2 : s < mid
          · have E : Hid (true = tL) := by have := TL.out; rw [decide_eq_true ⟨h1, h2⟩] at this; exact this
            go_wp2_with fail
            go_meet
            exact ⟨by rw [← E.out], rfl⟩
          · have E : Hid (false = tL) := by have := TL.out; rw [decide_eq_false (fun h => h2 h.2)] at this; exact this
            have d2 : decide (s < mid) = false := decide_eq_false h2
            clear h2
            go_wp2_with fail
            go_meet
            exact ⟨by rw [← E.out], rfl⟩
        · have E : Hid (false = tL) := by have := TL.out; rw [decide_eq_false (fun h => h1 h.1)] at this; exact this
          have d2 : decide (a < s) = false := decide_eq_false h1
          clear h1
          go_wp2_with fail
          go_meet
          exact ⟨by rw [← E.out], rfl⟩
      case rest =>
      obtain ⟨rfl, rfl⟩ := hcut
      go_upto_if 199 with fail
      go_cut [] (fun wx => Hid (∃ Z, Z.Perm (X1 ++ Y1) ∧ Z.Pairwise ltT ∧ OwnT wx base (.slice (some ⟨g, 0, none⟩) N c) (A ++ (Z ++ (X2 ++ (Y2 ++ B))))) ∧ Hid (RowKit.Below base w wx))
      case first => as_aux_lemma =>
        cases tL with
        | true =>
          have hR : a < s ∧ s < mid := of_decide_eq_true TL.out
          have l := LEN.out
          have C := Lib.hid (HI.out a s mid A X1 Y1 (X2 ++ (Y2 ++ B)) M1.out.1 l.2.2.2.2.2.2.1 l.1 l.2.2.2.2.1 (by rw [List.length_append, List.length_append]; omega) (by omega) (by omega) SS1.out.1 SS1.out.2.1 SS1.out.2.2 wc O6.out HSW.out)
          clear l hR
          go_wp2_with fail
          refine C.out.mono ?_
          rintro e w7 ⟨rfl, Z, z1, z2, o7, b7⟩
          have O7 : Hid (∃ Z, Z.Perm (X1 ++ Y1) ∧ Z.Pairwise ltT ∧ OwnT w7 base (.slice (some ⟨g, 0, none⟩) N c) (A ++ (Z ++ (X2 ++ (Y2 ++ B))))) := Lib.hid ⟨Z, z1, z2, o7⟩
          have B7 := Lib.hid (B6.out.trans b7)
          clear C o7 b7 z1 z2
          go_wp2_with fail
          go_meet
          exact ⟨O7, B7⟩
        | false =>
          have hR : ¬ (a < s ∧ s < mid) := of_decide_eq_false TL.out
          have O7 : Hid (∃ Z, Z.Perm (X1 ++ Y1) ∧ Z.Pairwise ltT ∧ OwnT wc base (.slice (some ⟨g, 0, none⟩) N c) (A ++ (Z ++ (X2 ++ (Y2 ++ B))))) := by
            have l := LEN.out
            refine ⟨X1 ++ Y1, List.Perm.refl _, ?_, ?_⟩
            · by_cases h0 : a < s
              · have : Y1 = [] := List.length_eq_zero_iff.1 (by omega)
                rw [this, List.append_nil]
                exact SS1.out.1
              · have : X1 = [] := List.length_eq_zero_iff.1 (by omega)
                rw [this, List.nil_append]
                exact SS1.out.2.1
            · rw [List.append_assoc]
              exact O6.out
          clear hR
          go_wp2_with fail
          go_meet
          exact ⟨O7, B6⟩
      case rest =>
      obtain ⟨O7, B7⟩ := hcut
      clear O6 B6 HSW
      have HSW : Hid (base ≤ wc.heap.size) := Nat.le_trans HS.out B7.out.size
      go_upto_region 43 with fail
      obtain ⟨wk, hwk⟩ : ∃ W, wc = W := ⟨_, rfl⟩
      rw [hwk] at O7 B7 HSW ⊢
      clear hwk
      go_cut [213] (fun v wx => v = .bool tQ ∧ wx = wk)
      case first => as_aux_lemma =>
        by_cases h1 : mid < e
        · by_cases h2 : e < b
          · have E : Hid (true = tQ) := by have := TQ.out; rw [decide_eq_true ⟨h1, h2⟩] at this; exact this
            go_wp2_with fail
            go_meet
            exact ⟨by rw [← E.out], rfl⟩
          · have E : Hid (false = tQ) := by have := TQ.out; rw [decide_eq_false (fun h => h2 h.2)] at this; exact this
            have d2 : decide (e < b) = false := decide_eq_false h2
            clear h2
            go_wp2_with fail
            go_meet
            exact ⟨by rw [← E.out], rfl⟩
        · have E : Hid (false = tQ) := by have := TQ.out; rw [decide_eq_false (fun h => h1 h.1)] at this; exact this
          have d2 : decide (mid < e) = false := decide_eq_false h1
          clear h1
          go_wp2_with fail
          go_meet
          exact ⟨by rw [← E.out], rfl⟩
      case rest =>
      obtain ⟨rfl, rfl⟩ := hcut
      cases tQ with
      | true =>
        as_aux_lemma =>
        have hR : mid < e ∧ e < b := of_decide_eq_true TQ.out
        have l := LEN.out
        obtain ⟨Z1, z1, z2, o7⟩ := O7.out
        have zl : Z1.length = X1.length + Y1.length := by rw [z1.length_eq, List.length_append]
        have C := Lib.hid (HI.out mid e b (A ++ Z1) X2 Y2 B M1.out.2 (by rw [List.length_append]; omega) l.2.2.2.2.2.1 l.2.2.2.1 l.2.2.2.2.2.2.2 (by omega) (by omega) SS2.out.1 SS2.out.2.1 SS2.out.2.2 wc (by rw [List.append_assoc]; exact o7) HSW.out)
        have Z12 : Hid (Z1.Perm (X1 ++ Y1) ∧ Z1.Pairwise ltT) := Lib.hid ⟨z1, z2⟩
        clear l hR o7 z1 z2 zl
        go_wp2_with fail
        refine C.out.mono ?_
        rintro e w8 ⟨rfl, Z2, y1, y2, o8, b8⟩
        have K : Hid (∃ Z, Z.Perm (X ++ Y) ∧ Z.Pairwise ltT ∧ OwnT w8 base (.slice (some ⟨g, 0, none⟩) N c) (A ++ (Z ++ B)) ∧ RowKit.Below base w w8) := by
          have hq := HEQ.out
          rw [← hq.1, ← hq.2]
          refine ⟨Z1 ++ Z2, halves_perm Z12.out.1 y1, halves Z12.out.1 y1 Z12.out.2 y2 SP.out, ?_, B7.out.trans b8⟩
          simp only [List.append_assoc] at o8 ⊢
          exact o8
        clear C o8 b8 y1 y2
        go_wp2_with fail
        go_end0
        exact ⟨rfl, K.out⟩
      | false =>
        as_aux_lemma =>
        have hR : ¬ (mid < e ∧ e < b) := of_decide_eq_false TQ.out
        have K : Hid (∃ Z, Z.Perm (X ++ Y) ∧ Z.Pairwise ltT ∧ OwnT wc base (.slice (some ⟨g, 0, none⟩) N c) (A ++ (Z ++ B)) ∧ RowKit.Below base w wc) := by
          have l := LEN.out
          obtain ⟨Z1, z1, z2, o7⟩ := O7.out
          have hq := HEQ.out
          rw [← hq.1, ← hq.2]
          have s2 : (X2 ++ Y2).Pairwise ltT := by
            by_cases h0 : mid < e
            · have : Y2 = [] := List.length_eq_zero_iff.1 (by omega)
              rw [this, List.append_nil]
              exact SS2.out.1
            · have : X2 = [] := List.length_eq_zero_iff.1 (by omega)
              rw [this, List.nil_append]
              exact SS2.out.2.1
          refine ⟨Z1 ++ (X2 ++ Y2), halves_perm z1 (List.Perm.refl _), halves z1 (List.Perm.refl _) z2 s2 SP.out, ?_, B7.out⟩
          simp only [List.append_assoc] at o7 ⊢
          exact o7
        clear hR
        go_wp2_with fail
        go_end0
        exact ⟨rfl, K.out⟩
/-- A merge of any number of elements. -/
theorem sym_all (base g c N : Nat) (hN2 : N ≤ 100000000) : ∀ M, SymC base g c N M
  | 0 => fun a m b A X Y B hM hA hX hY hN h1 h2 => absurd hM (by omega)
  | M + 1 => fun a m b A X Y B hM hA hX hY hN h1 h2 sX sY cr w h hs => by
    by_cases e1 : X.length = 1
    · obtain ⟨x, rfl⟩ := List.length_eq_one_iff.1 e1
      exact sym_one base g c N a m b A Y B x hA hX hY hN hN2 sY cr w h hs
    · by_cases e2 : Y.length = 1
      · obtain ⟨y, rfl⟩ := List.length_eq_one_iff.1 e2
        exact sym_last base g c N a m b X.length A X B y hA rfl (by omega) hX hY hN hN2 sX cr w h hs
      · exact sym_step base g c N M hN2 (sym_all base g c N hN2 M) a m b X.length Y.length A X Y B hM hA rfl rfl (by omega) (by omega) hX hY hN sX sY cr w h hs
end Go.Proofs.Ytibakhobgfiklaa
