/-
  The law BinencRoundTrip: true for every input, nothing that existed has changed. Condition: none beyond the theorem's own hypotheses.
-/
import Derived.Test.YteojfgpinmpocaaEK
namespace Go.Proofs.Yteojfgpinmpocaa
open Go.RowKit

/-- The five cells of an item. -/
theorem it_at {w : World} {A : Option Addr} {n c : Nat} {l : List It} (h : LstG itC w (.slice A n c) l) {i : Nat} {s : It} (hs : l[i]? = some s) :
    ∃ b o, A = some ⟨b, o, none⟩ ∧ b < w.heap.size ∧ w.cell? ⟨b, o + i * 5, none⟩ = some (.int .u64 (s.1 : Int)) ∧ w.cell? ⟨b, o + i * 5 + 1, none⟩ = some (.int .i64 s.2.1) ∧ w.cell? ⟨b, o + i * 5 + 2, none⟩ = some s.2.2.1.1 ∧ w.cell? ⟨b, o + i * 5 + 3, none⟩ = some (.bool s.2.2.2.1) ∧ w.cell? ⟨b, o + i * 5 + 4, none⟩ = some s.2.2.2.2.1 := by
  obtain ⟨A', c', hv, _, _, hx⟩ := h
  cases hv
  have hi := (List.getElem?_eq_some_iff.1 hs).1
  obtain ⟨b, o, rfl, hb, hcell⟩ := hx (by omega)
  exact ⟨b, o, rfl, hb, hcell (i * 5) _ (by rw [← Nat.add_zero (i * 5), fl_at itC_len hs 0 (by omega)]; rfl), (hcell (i * 5 + 1) _ (by rw [fl_at itC_len hs 1 (by omega)]; rfl) : _), (hcell (i * 5 + 2) _ (by rw [fl_at itC_len hs 2 (by omega)]; rfl) : _), (hcell (i * 5 + 3) _ (by rw [fl_at itC_len hs 3 (by omega)]; rfl) : _), (hcell (i * 5 + 4) _ (by rw [fl_at itC_len hs 4 (by omega)]; rfl) : _)⟩
/-- A slice of items, each of which can be what it is in the world. -/
def LstIt (w : World) (v : Value) (l : List It) : Prop := LstG itC w v l ∧ ∀ a ∈ l, OkI w a
theorem open_list_Item {H : Type} {enc : TypeId × Value → H} {W : World} {base : Nat} {v : Value} {d : DataW H} {ps : List MemPlace} (hval : Value.okWide Try.prog W .any base 57 v)
    (h : DataW.Trod enc Try.prog W 0 (fun _ => true) true 57 v d ps) : ∃ l : List It, LstIt W v l ∧ l.length ≤ 9223372036854775807 ∧ (∀ x ∈ ps, x.block < W.heap.size) ∧ ∀ a ∈ l, True := by
  obtain ⟨l, h1, h2, h3, h4⟩ := open_list_It0 hval h
  exact ⟨l, ⟨h1, h4⟩, h2, h3, fun _ _ => trivial⟩
/-- An item is small. -/
def Sm (x : It) : Prop := x.2.2.1.2.length ≤ 200 ∧ x.2.2.2.2.2.length ≤ 50
def flatIt (xs : List It) : List UInt8 := xs.flatMap encIt
theorem flatIt_app (a b : List It) : flatIt (a ++ b) = flatIt a ++ flatIt b := by unfold flatIt; rw [List.flatMap_append]
theorem flatIt_one (x : It) : flatIt [x] = encIt x := by unfold flatIt; simp
theorem flatIt_take {l : List It} {k : Nat} {x : It} (h : l[k]? = some x) : flatIt (l.take (k + 1)) = flatIt (l.take k) ++ encIt x := by rw [take_at l k x h, flatIt_app, flatIt_one]
theorem flatIt_cut {l : List It} {k : Nat} {x : It} (h : l[k]? = some x) : flatIt l = flatIt (l.take k) ++ (encIt x ++ flatIt (l.drop (k + 1))) := by
  rw [← flatIt_one x, ← flatIt_app, ← flatIt_app]
  congr 1
  conv => lhs; rw [← List.take_append_drop k l, drop_at l k x h]
  rfl
theorem encIt_len {x : It} (h : Sm x) : (encIt x).length ≤ 1000 := by
  obtain ⟨h1, h2⟩ := h
  have := (putU_len x.1).2
  have := (putI_len x.2.1).2
  have := (putB_len x.2.2.1.2).2
  have := putT_len x.2.2.2.1
  have := putL_len x.2.2.2.2.2
  unfold encIt
  simp only [List.length_append]
  omega
theorem flatIt_len : ∀ xs : List It, (∀ x ∈ xs, Sm x) → (flatIt xs).length ≤ 1000 * xs.length
  | [], _ => Nat.le_refl _
  | x :: xs, h => by
    have h1 := encIt_len (h x (by simp))
    have h2 := flatIt_len xs fun y hy => h y (List.mem_cons_of_mem _ hy)
    rw [show x :: xs = [x] ++ xs from rfl, flatIt_app, flatIt_one, List.length_append, List.length_append, List.length_singleton]
    omega
theorem taken_pos (a r : List UInt8) (x : It) (h1 : x.1 < 18446744073709551616) (h2 : I64 x.2.1) (h3 : Sm x) (h4 : ∀ y ∈ x.2.2.2.2.2, I64 y) : ∃ p1 p2 p3 p4 : Int,
    rU (a ++ (encIt x ++ r)) (a.length : Nat) = (x.1, p1, 0) ∧ rI (a ++ (encIt x ++ r)) p1 = (x.2.1, p2, 0) ∧ rB (a ++ (encIt x ++ r)) p2 (x.2.2.1.2.length : Nat) = (x.2.2.1.2, p3, 0) ∧ rT (a ++ (encIt x ++ r)) p3 = (x.2.2.2.1, p4, 0) ∧
    rL (a ++ (encIt x ++ r)) p4 (x.2.2.2.2.2.length : Nat) = (x.2.2.2.2.2, (((a ++ encIt x).length : Nat) : Int), 0) := by
  obtain ⟨n, i, ⟨sv, s⟩, b, ⟨lv, l⟩⟩ := x
  obtain ⟨hs, hl⟩ := h3
  simp only at h1 h2 hs hl h4 ⊢
  obtain ⟨L, hL⟩ : ∃ L, a ++ (encIt (n, i, (sv, s), b, (lv, l)) ++ r) = L := ⟨_, rfl⟩
  rw [hL]
  have e0 : L = a ++ (putU n ++ (putI i ++ (putB s ++ (putT b ++ (putL l ++ r))))) := by rw [← hL]; simp only [encIt, List.append_assoc]
  have e1 : L = (a ++ putU n) ++ (putI i ++ (putB s ++ (putT b ++ (putL l ++ r)))) := by rw [e0]; simp only [List.append_assoc]
  have e2 : L = (a ++ putU n ++ putI i) ++ (putB s ++ (putT b ++ (putL l ++ r))) := by rw [e0]; simp only [List.append_assoc]
  have e3 : L = (a ++ putU n ++ putI i ++ putB s) ++ (putT b ++ (putL l ++ r)) := by rw [e0]; simp only [List.append_assoc]
  have e4 : L = (a ++ putU n ++ putI i ++ putB s ++ putT b) ++ (putL l ++ r) := by rw [e0]; simp only [List.append_assoc]
  have e5 : (a ++ encIt (n, i, (sv, s), b, (lv, l))).length = (a ++ putU n ++ putI i ++ putB s ++ putT b).length + (putL l).length := by
    unfold encIt
    simp only [List.length_append]
    omega
  have r0 := rU_put a (putI i ++ (putB s ++ (putT b ++ (putL l ++ r)))) n h1
  have r1 := rI_put (a ++ putU n) (putB s ++ (putT b ++ (putL l ++ r))) i h2
  have r2 := rB_put (a ++ putU n ++ putI i) (putT b ++ (putL l ++ r)) s (by omega)
  have r3 := rT_put (a ++ putU n ++ putI i ++ putB s) (putL l ++ r) b
  have r4 := rL_put (a ++ putU n ++ putI i ++ putB s ++ putT b) r l (by omega) h4
  rw [← e0] at r0
  rw [← e1] at r1
  rw [← e2] at r2
  rw [← e3] at r3
  rw [← e4] at r4
  rw [e5]
  simp only [List.length_append] at r1 r2 r3 r4 ⊢
  exact ⟨_, _, _, _, r0, r1, r2, r3, r4⟩
set_option maxRecDepth 100000 in
set_option maxHeartbeats 4000000 in
theorem round_law (v : Value) (l : List It) (_ : l.length ≤ 9223372036854775807) (_ : ∀ a ∈ l, True) (w : World) (h : LstIt w v l) : Calls Try.prog 10 #[v] w fun e w' => e = .returned (.bool true) ∧ Below w.heap.size w w' := by
  have X := Lib.hid (fun W => ex_any W)
  obtain ⟨h, hok⟩ := h
  by_cases h1 : 20 < l.length
  · obtain ⟨A, c, rfl, -⟩ := h
    have g : (20 : Int) < (l.length : Int) := by omega
    clear h1
    go_enter Try.func10, Try.ntmps10
    go_wp2_with fail
    refine (X.out _).mono ?_
    rintro e w1 ⟨rfl, b1⟩
    go_wp2_with fail
    go_ret
    exact ⟨rfl, b1⟩
  have g1 : decide ((20 : Int) < (l.length : Int)) = false := by simp; omega
  have kl : l.length ≤ 20 := by omega
  have H := Lib.hid h
  have OK := Lib.hid hok
  obtain ⟨A, c, rfl, -⟩ := h
  clear h1 hok
  go_enter Try.func10, Try.ntmps10
  go_wp2_with fail
  go_loopw [3, 4] (fun bv iv wr => ∃ k : Nat, iv = .int .i64 k ∧ k ≤ l.length ∧ Hid (OwnB wr w.heap.size bv (flatIt (l.take k))) ∧ Hid (∀ x ∈ l.take k, Sm x) ∧ Hid (Below w.heap.size w wr)) (fun _ iv _ => l.length - (intOf iv).toNat)
  case atStart => exact ⟨0, rfl, Nat.zero_le _, Lib.hid (by rw [List.take_zero]; exact OwnB.nil _ _), Lib.hid (by rw [List.take_zero]; intro x hx; simp at hx), Lib.hid (Below.refl _ _)⟩
  case round =>
    obtain ⟨k, rfl, hk, OB, SM, BB⟩ := hrel
    by_cases hlt : k < l.length
    · obtain ⟨x, hx⟩ := at_lt hlt
      have gk : (k : Int) < (l.length : Int) := by omega
      obtain ⟨b, o, rfl, hb, m0, m1, m2, m3, m4⟩ := it_at (LstG.below H.out BB.out) hx
      have hx1 := OK.out x (List.mem_iff_getElem?.2 ⟨k, hx⟩)
      have FT := Lib.hid (flatIt_take hx)
      have ST := Lib.hid (take_at l k x hx)
      have LA := Lib.hid (show (flatIt (l.take k)).length ≤ 1000000 by
        have := flatIt_len (l.take k) SM.out
        rw [List.length_take] at this
        omega)
      by_cases hs : 200 < x.2.2.1.2.length
      · obtain ⟨n, i, ⟨sv, s⟩, bb, ⟨lv, li⟩⟩ := x
        obtain ⟨-, -, ⟨h3, -⟩, ⟨h4, -⟩, -⟩ := hx1
        simp only at h3 h4 hs m0 m1 m2 m3 m4
        obtain ⟨As, cs, rfl, -⟩ := h3
        obtain ⟨Al, cl, rfl, -⟩ := h4
        have g2 : (200 : Int) < (s.length : Int) := by omega
        clear hs hx
        go_wp2_with fail
        refine (X.out _).mono ?_
        rintro e w' ⟨rfl, b'⟩
        go_wp2_with fail
        go_ret
        exact ⟨rfl, bel_on BB.out b'⟩
      by_cases hl : 50 < x.2.2.2.2.2.length
      · obtain ⟨n, i, ⟨sv, s⟩, bb, ⟨lv, li⟩⟩ := x
        obtain ⟨-, -, ⟨h3, -⟩, ⟨h4, -⟩, -⟩ := hx1
        simp only at h3 h4 hs hl m0 m1 m2 m3 m4
        obtain ⟨As, cs, rfl, -⟩ := h3
        obtain ⟨Al, cl, rfl, -⟩ := h4
        have g2 : decide ((200 : Int) < (s.length : Int)) = false := by simp; omega
        have g3 : (50 : Int) < (li.length : Int) := by omega
        clear hs hl hx
        go_wp2_with fail
        refine (X.out _).mono ?_
        rintro e w' ⟨rfl, b'⟩
        go_wp2_with fail
        go_ret
        exact ⟨rfl, bel_on BB.out b'⟩
      have P := Lib.hid (put_any w x hx1 (by omega) (by omega) u3 (flatIt (l.take k)) LA.out wr BB.out OB.out)
      rw [← FT.out] at P
      have SM2 : Hid (∀ y ∈ l.take (k + 1), Sm y) := by
        intro y hy
        rw [ST.out] at hy
        rcases List.mem_append.1 hy with hy | hy
        · exact SM.out y hy
        · simp at hy; subst hy; exact ⟨by omega, by omega⟩
      obtain ⟨n, i, ⟨sv, s⟩, bb, ⟨lv, li⟩⟩ := x
      obtain ⟨-, -, ⟨h3, -⟩, ⟨h4, -⟩, -⟩ := hx1
      simp only at h3 h4 hs hl m0 m1 m2 m3 m4 P
      obtain ⟨As, cs, rfl, -⟩ := h3
      obtain ⟨Al, cl, rfl, -⟩ := h4
      have g2 : decide ((200 : Int) < (s.length : Int)) = false := by simp; omega
      have g3 : decide ((50 : Int) < (li.length : Int)) = false := by simp; omega
      clear hs hl hx FT ST SM LA OB
      go_wp2_with fail
      refine P.out.mono ?_
      rintro e w2 ⟨u, rfl, o2, b2⟩
      have O2 := Lib.hid o2
      have B2 := Lib.hid b2
      clear o2 b2 P m0 m1 m2 m3 m4
      go_wp2_with fail
      go_roundw
      case rel => exact ⟨k + 1, by go_num, by omega, O2, SM2, B2⟩
      case measure => simp [intOf]; omega
    · have d : decide (k < l.length) = false := by rw [decide_eq_false_iff_not]; exact hlt
      have hkl : k = l.length := by omega
      rw [hkl, List.take_length] at OB SM
      have LA := Lib.hid (show (flatIt l).length ≤ 1000000 by
        have := flatIt_len l SM.out
        omega)
      obtain ⟨Ab, cb, rfl⟩ := own_shape' OB.out
      obtain ⟨wa, rfl⟩ : ∃ x, x = wr := ⟨_, rfl⟩
      clear hlt hkl
      go_wp2_with fail
      go_loopw [5, 6, 7] (fun av kv iv wr => ∃ k : Nat, iv = .int .i64 k ∧ kv = .bool true ∧ av = .int .i64 ((flatIt (l.take k)).length : Nat) ∧ k ≤ l.length ∧ Hid (Below wa.heap.size wa wr)) (fun _ _ iv _ => l.length - (intOf iv).toNat)
      case atStart => exact ⟨0, rfl, rfl, by rw [List.take_zero]; rfl, Nat.zero_le _, Lib.hid (Below.refl _ _)⟩
      case round =>
        obtain ⟨k, rfl, rfl, rfl, hk, B3⟩ := hrel
        have BW := Lib.hid (bel_on BB.out B3.out)
        have OB2 := Lib.hid (own_on B3.out OB.out)
        by_cases hlt : k < l.length
        · obtain ⟨x, hx⟩ := at_lt hlt
          have gk : (k : Int) < (l.length : Int) := by omega
          obtain ⟨b, o, rfl, hb, m0, m1, m2, m3, m4⟩ := it_at (LstG.below H.out BW.out) hx
          have hx1 := OK.out x (List.mem_iff_getElem?.2 ⟨k, hx⟩)
          have hsm := SM.out x (List.mem_iff_getElem?.2 ⟨k, hx⟩)
          have hx2 : OkI wr x := ⟨hx1.1, hx1.2.1, ⟨hx1.2.2.1.1.below BW.out, hx1.2.2.1.2⟩, ⟨hx1.2.2.2.1.1.below BW.out, hx1.2.2.2.1.2⟩, hx1.2.2.2.2⟩
          obtain ⟨p1, p2, p3, p4, r1, r2, r3, r4, r5⟩ := taken_pos (flatIt (l.take k)) (flatIt (l.drop (k + 1))) x hx1.1 hx1.2.1 hsm hx1.2.2.2.2
          rw [← flatIt_cut hx] at r1 r2 r3 r4 r5
          rw [← flatIt_take hx] at r5
          have T := Lib.hid (taken_any x _ (flatIt l) (by have := LA.out; omega) _ p1 p2 p3 p4 _ wr hx2 hsm.1 hsm.2 OB2.out.lst r1 r2 r3 r4 r5)
          obtain ⟨n, i, ⟨sv, s⟩, bb, ⟨lv, li⟩⟩ := x
          simp only at m0 m1 m2 m3 m4 T
          clear hx hx1 hx2 hsm r1 r2 r3 r4 r5
          go_wp2_with fail
          refine T.out.mono ?_
          rintro e w2 ⟨rfl, b2⟩
          have NB := Lib.hid (bel_on B3.out b2)
          clear b2 T m0 m1 m2 m3 m4
          go_wp2_with fail
          go_roundw
          case rel => exact ⟨k + 1, by go_num, rfl, rfl, by omega, NB⟩
          case measure => simp [intOf]; omega
        · have d : decide (k < l.length) = false := by rw [decide_eq_false_iff_not]; exact hlt
          have hkl : k = l.length := by omega
          rw [hkl, List.take_length]
          rw [hkl] at d
          clear hlt
          go_wp2_with fail
          refine (X.out _).mono ?_
          rintro e w' ⟨rfl, b'⟩
          go_wp2_with fail
          go_ret
          exact ⟨rfl, bel_on BW.out b'⟩
end Go.Proofs.Yteojfgpinmpocaa
