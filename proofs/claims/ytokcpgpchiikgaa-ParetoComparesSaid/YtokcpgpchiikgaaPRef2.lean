/-
  The reference's Merge, Insert and IsFront; contracts told of an earlier world. Condition: the lists' lengths are below the bounds that each theorem names.
-/
import Derived.Test.YtokcpgpchiikgaaPRef
import Derived.Deep.RegionHeld3
namespace Go.Proofs.Ytokcpgpchiikgaa
open Go.RowKit

/-- A contract told of an earlier world. -/
theorem far {f : FuncId} {args : Array Value} {w W : World} {x : Ending} (h : Calls Try.prog f args W fun e w' => e = x ∧ Below W.heap.size W w') (hb : Below w.heap.size w W) : Calls Try.prog f args W fun e w' => e = x ∧ Below w.heap.size w w' :=
  h.mono fun _ _ ⟨he, hc⟩ => ⟨he, hb.trans (hc.mono hb.size)⟩
theorem far_list {f : FuncId} {args : Array Value} {w W : World} {l : List Vec} (h : Calls Try.prog f args W fun e w' => ∃ v', e = .returned v' ∧ LstV w' v' l ∧ Below W.heap.size W w') (hb : Below w.heap.size w W) : Calls Try.prog f args W fun e w' => ∃ v', e = .returned v' ∧ LstV w' v' l ∧ Below w.heap.size w w' :=
  h.mono fun _ _ ⟨v', he, hl, hc⟩ => ⟨v', he, hl, hb.trans (hc.mono hb.size)⟩
theorem far_two {f : FuncId} {args : Array Value} {w W : World} {l : List Vec} {q : Bool} (h : Calls Try.prog f args W fun e w' => ∃ v', e = .returned (.tuple #[v', .bool q]) ∧ LstV w' v' l ∧ Below W.heap.size W w') (hb : Below w.heap.size w W) : Calls Try.prog f args W fun e w' => ∃ v', e = .returned (.tuple #[v', .bool q]) ∧ LstV w' v' l ∧ Below w.heap.size w w' :=
  h.mono fun _ _ ⟨v', he, hl, hc⟩ => ⟨v', he, hl, hb.trans (hc.mono hb.size)⟩
theorem balloc {a w : World} (h : Below a.heap.size a w) (o : Obj) : Below a.heap.size a (w.alloc o) := h.alloc h.size o
theorem kal {W : World} {a : Addr} {v : Value} (h : W.cell? a = some v) (o : Obj) : (W.alloc o).cell? a = some v :=
  (((Below.refl W.heap.size W).alloc (Nat.le_refl _) o).cell (p := a) (World.block_lt_of_cell? _ _ h)).trans h
set_option maxRecDepth 100000 in
set_option maxHeartbeats 4000000 in
theorem rmerge_any (va vb : Value) (a b : List Vec) (ha : a.length ≤ 100000) (hb : b.length ≤ 100000) (w : World) (hA : LstV w va a) (hB : LstV w vb b) :
    Calls Try.prog 26 #[va, vb] w fun e w' => ∃ v', e = .returned v' ∧ LstV w' v' (frV (a ++ b)) ∧ Below w.heap.size w w' := by
  have o0 : OwnR (w.alloc (.cells #[] 26 (0, 0))) w.heap.size (.slice (some ⟨w.heap.size, 0, none⟩) 0 0) [] := World.ownsRow_lit w #[] 0 (Nat.le_refl _) (by unfold maxLen; omega) rfl
  have O0 := Lib.hid o0
  have B0 : Hid (Below w.heap.size w (w.alloc (.cells #[] 26 (0, 0)))) := (Below.refl _ _).alloc (Nat.le_refl _) _
  have HA := Lib.hid (hA.below B0.out)
  have HB := Lib.hid hB
  clear o0 hA hB
  go_enter Try.func26, Try.ntmps26
  go_wp2_with (at_builtin; first
    | (refine appG_list vc_len vc_one (by decide) Try.underlying35 info_rv rfl (by decide) _ rfl (.tmp 5) (.tmp 6) rfl w.heap.size _ [] a rfl O0.out _ rfl HA.out (by simp) (by simp; omega) ?_; intro v1 w1 own1 b1 gr1 wh1; have O1 := Lib.hid own1; have B1 := Lib.hid (B0.out.trans b1); have HB1 := Lib.hid (HB.out.below B1.out); have hz1 := B1.out.size; clear own1 b1 gr1 wh1)
    | (refine appG_list vc_len vc_one (by decide) Try.underlying35 info_rv rfl (by decide) _ rfl (.tmp 7) (.tmp 8) rfl w.heap.size _ ([] ++ a) b rfl O1.out _ rfl HB1.out hz1 (by rw [List.nil_append]; omega) ?_; intro v2 w2 own2 b2 gr2 wh2; have O2 := Lib.hid own2; have B2 := Lib.hid (B1.out.trans b2); clear own2 b2 gr2 wh2))
  have F := Lib.hid (rfront_any v2 (a ++ b) (by rw [List.length_append]; omega) w2 (OwnG.lst O2.out))
  clear O0 O1 O2 B0 B1 HA HB HB1
  go_wp2_with fail
  refine F.out.mono ?_
  rintro e w3 ⟨v3, rfl, l3, b3⟩
  have R : Hid (LstV w3 v3 (frV (a ++ b)) ∧ Below w.heap.size w w3) := ⟨l3, B2.out.trans (b3.mono B2.out.size)⟩
  clear l3 b3 F B2
  go_wp2_with fail
  go_ret
  exact ⟨_, rfl, R.out⟩
theorem risfront_any (v : Value) (l : List Vec) (hl : l.length ≤ 900000) (w : World) (h : LstV w v l) : Calls Try.prog 20 #[v] w fun e w' => e = .returned (.bool (decide (l = frV l))) ∧ Below w.heap.size w w' := by
  have C := Lib.hid (rfront_any v l (by omega) w h)
  have H := Lib.hid h
  have hfl := frV_len l
  generalize frV l = f at C hfl ⊢
  clear h
  go_enter Try.func20, Try.ntmps20
  go_wp2_with fail
  refine C.out.mono ?_
  rintro e w1 ⟨v1, rfl, l1, b1⟩
  have Q := Lib.hid (same_any v v1 l f (by omega) (by omega) w1 (H.out.below b1) l1)
  have B1 := Lib.hid b1
  clear l1 b1 C
  go_wp2_with fail
  refine Q.out.mono ?_
  rintro e w2 ⟨rfl, b2⟩
  have B2 := Lib.hid (B1.out.trans (b2.mono B1.out.size))
  clear b2 Q B1
  go_wp2_with fail
  go_ret
  exact ⟨rfl, B2.out⟩
set_option maxRecDepth 100000 in
set_option maxHeartbeats 8000000 in
theorem rinsert_any (v : Value) (l : List Vec) (x : Vec) (hl : l.length ≤ 90000) (w : World) (h : LstV w v l) :
    Calls Try.prog 22 #[v, .agg #[.int .i64 x.1, .int .i64 x.2.1, .int .i64 x.2.2.1, .int .i64 x.2.2.2]] w fun e w' => ∃ v', e = .returned (.tuple #[v', .bool (!cov l x)]) ∧ LstV w' v' (frV (l ++ [x])) ∧ Below w.heap.size w w' := by
  obtain ⟨w0, hw0, hs, rx, b0⟩ := box_one w x 26
  have hz := b0.size
  have B0 := Lib.hid b0
  have H := Lib.hid (h.below b0)
  obtain ⟨p0, p1, p2, p3⟩ := box_at rx
  have ls := lstG_lit (enc := vc) w0 #[.int .i64 x.1, .int .i64 x.2.1, .int .i64 x.2.2.1, .int .i64 x.2.2.2] 26 [x] rfl 1 rfl
  have CM := Lib.hid (fun W (hb : Below w0.heap.size w0 W) (hx : Below (w0.alloc (.cells #[.int .i64 x.1, .int .i64 x.2.1, .int .i64 x.2.2.1, .int .i64 x.2.2.2] 26 (0, 0))).heap.size (w0.alloc (.cells #[.int .i64 x.1, .int .i64 x.2.1, .int .i64 x.2.2.1, .int .i64 x.2.2.2] 26 (0, 0))) W) => far_list (rmerge_any v (.slice (some ⟨w0.heap.size, 0, none⟩) 1 1) l [x] (by omega) (by simp) W (H.out.below hb) (ls.below hx)) hb)
  have CC := Lib.hid (fun W1 (h1 : Below w0.heap.size w0 W1) W (hb : Below W1.heap.size W1 W) => far (rcov_any v l x (by omega) W (H.out.below (h1.trans (hb.mono h1.size)))) hb)
  generalize frV (l ++ [x]) = r at CM ⊢
  generalize cov l x = q at CC ⊢
  have ws : w.heap.size < w0.heap.size := by omega
  clear b0 rx h ls hs
  go_enter Try.func22, Try.ntmps22
  go_wp2_with fail
  clear hw0
  go_region_held3 (fun W => W.cell? ⟨w.heap.size, 0, none⟩ = some (.int .i64 x.1) ∧ W.cell? ⟨w.heap.size, 1, none⟩ = some (.int .i64 x.2.1) ∧ W.cell? ⟨w.heap.size, 2, none⟩ = some (.int .i64 x.2.2.1) ∧ W.cell? ⟨w.heap.size, 3, none⟩ = some (.int .i64 x.2.2.2)) (first | assumption | (exact ⟨by assumption, by assumption, by assumption, by assumption⟩) | (exact ⟨kal (by assumption) _, kal (by assumption) _, kal (by assumption) _, kal (by assumption) _⟩)) (first
    | (go_at_call 26; with_reducible refine (CM.out _ (by first | (exact (balloc (Below.refl _ _) _).drew) | (exact balloc (Below.refl _ _).drew _)) (by first | (exact (Below.refl _ _).drew) | (exact Below.refl _ _))).mono ?_; rintro e wa ⟨va, rfl, la, ba⟩; have ca0 := (ba.cell (p := ⟨w.heap.size, 0, none⟩) ws).trans p0; have ca1 := (ba.cell (p := ⟨w.heap.size, 1, none⟩) ws).trans p1; have ca2 := (ba.cell (p := ⟨w.heap.size, 2, none⟩) ws).trans p2; have ca3 := (ba.cell (p := ⟨w.heap.size, 3, none⟩) ws).trans p3; have LA := Lib.hid la; clear la)
    | (go_at_call 24; with_reducible refine (CC.out wa ba _ (by first | exact Below.refl _ _ | (exact (Below.refl _ _).drew))).mono ?_; rintro e wb ⟨rfl, bb⟩; have wsa := Nat.lt_of_lt_of_le ws ba.size; have cb0 := (bb.cell (p := ⟨w.heap.size, 0, none⟩) wsa).trans ca0; have cb1 := (bb.cell (p := ⟨w.heap.size, 1, none⟩) wsa).trans ca1; have cb2 := (bb.cell (p := ⟨w.heap.size, 2, none⟩) wsa).trans ca2; have cb3 := (bb.cell (p := ⟨w.heap.size, 3, none⟩) wsa).trans ca3))
  all_goals
    have R : Hid (LstV wb va r ∧ Below w.heap.size w wb) := ⟨LA.out.below bb, B0.out.trans ((ba.trans (bb.mono ba.size)).mono hz)⟩
    clear CM CC LA ba bb ca0 ca1 ca2 ca3 cb0 cb1 cb2 cb3
    go_wp2_with fail
    go_ret2
    exact ⟨_, rfl, R.out⟩
end Go.Proofs.Ytokcpgpchiikgaa
