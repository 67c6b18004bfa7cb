/-
  visit of package product with the closure that collects indices; Options: what each call answers; nothing that existed before the call has changed behind it. Condition: lists of at most 1000000 products.
-/
import Derived.Test.YtkpmmojfnhfflaaPdU
import Derived.Test.YtkpmmojfnhfflaaOwnW
import Derived.Test.YtkpmmojfnhfflaaBox
import Derived.RangeFuncBox
import Derived.RangeFuncNested
namespace Go.Proofs.Ytkpmmojfnhfflaa
open Go.RowKit

/-- What is collected so far lies behind block M. -/
def OptSt (w0 : World) (M : Nat) (xs : List Int) (W : World) : Prop := ∃ u, Boxed W M 36 u ∧ OwnI W M u xs ∧ RowKit.Below w0.heap.size w0 W
theorem OptSt.on {w0 : World} {M : Nat} {xs : List Int} {W W' : World} (h : OptSt w0 M xs W) (b : RowKit.Below W.heap.size W W') : OptSt w0 M xs W' := by
  obtain ⟨u, h1, h2, h3⟩ := h
  exact ⟨u, (b.block _ h1.lt).trans h1, h2.below b, h3.trans (b.mono h3.size)⟩
theorem OptSt.base {w0 : World} {M : Nat} {xs : List Int} {W : World} (h : OptSt w0 M xs W) : RowKit.Below w0.heap.size w0 W := by
  obtain ⟨u, h1, h2, h3⟩ := h
  exact h3
theorem own_snoc {w : World} {base : Nat} {v : Value} {xs : List Int} {i : Int} (h : OwnI w base v (xs ++ [i])) : ∃ g c, v = .slice (some ⟨g, 0, none⟩) (xs.length + 1) c := by
  rcases h.low with ⟨-, h0⟩ | ⟨g, c, hv, -⟩
  · simp at h0
  · exact ⟨g, c, by rw [hv, List.length_append]; rfl⟩
set_option maxRecDepth 100000 in
set_option maxHeartbeats 4000000 in
theorem kopt1_any (w0 : World) (M : Nat) (hM : w0.heap.size ≤ M) (xs : List Int) (hx : xs.length ≤ 1000000) (i : Int) (w : World) (S : OptSt w0 M xs w) :
    Calls Try.prog 39 #[.int .i64 i, .pointer (some ⟨M, 0, none⟩)] w fun e w' => e = .returned (.tuple #[]) ∧ OptSt w0 M (xs ++ [i]) w' := by
  obtain ⟨u, h1, h2, h3⟩ := S
  have c1 := h1.cell
  have hlt := h1.lt
  have A1 := Lib.hid ((RowKit.Below.refl w.heap.size w).alloc (Nat.le_refl _) (.cells #[.int .i64 i] 3 (0, 0)))
  have HB := Lib.hid h3
  have O := Lib.hid (h2.below A1.out)
  have O2 := Lib.hid h2
  have X := Lib.hid h1
  clear h1 h2 h3
  go_enter Try.func39, Try.ntmps39
  go_wp2_with (at_builtin; refine app_intW _ rfl (.tmp 3) (.tmp 5) rfl M u xs i rfl O.out w.heap.size #[.int .i64 i] (heap_alloc_new _ _) rfl rfl (by simp; omega) (by omega) ?_; intro v1 w1 own1 g1 wh1; obtain ⟨g2, c2, rfl⟩ := own_snoc own1; obtain ⟨k1, k2, k3, k4, k5⟩ := X.out.appended (n₀ := M) (by decide) O2.out (by omega) (Nat.le_refl _) own1 g1; have q0 := k1.cell; have q1 := k1.frozen; have K2 := Lib.hid k2; have K3 := Lib.hid k3; have K5 := Lib.hid k5; clear own1 g1 wh1 k1 k2 k3 k4 k5)
  go_wp2_with fail
  go_end0
  exact ⟨rfl, _, K2.out, K3.out, HB.out.trans (K5.out.mono hM)⟩
abbrev optV (M : Nat) : Value := .func (.func 39) #[] #[.pointer (some ⟨M, 0, none⟩)]
theorem op_enter : ∀ args W, (callFunc 39 args).run Try.prog W = .ok (.enter 39 args) W := enter_of Try.func39 (by kernel_rfl) (by kernel_rfl)
set_option maxRecDepth 100000 in
set_option maxHeartbeats 4000000 in
theorem kvis_opt (w0 : World) (M : Nat) (hM : w0.heap.size ≤ M) (vl : Value) (l : List Pd) (hl : l.length ≤ 1000000) (hok : OkPds l) (vr : Value) (rs : List Ri) (hrl : rs.length ≤ 9223372036854775807) (hrk : OkRis rs)
    (h : LstPd w0 vl l) (hr : LstRi w0 vr rs) (w : World) (S : OptSt w0 M [] w) :
    Calls Try.prog 38 #[vl, vr, optV M] w fun e w' => e = .returned (.tuple #[]) ∧ OptSt w0 M (optPd l rs) w' := by
  have H := Lib.hid h
  have HR := Lib.hid hr
  have HS := Lib.hid S
  have HK := Lib.hid hok
  obtain ⟨A, n, rfl, -, -, -⟩ := h
  obtain ⟨A2, n2, rfl, -, -, -⟩ := hr
  have ce := op_enter
  clear S hok
  go_enter Try.func38, Try.ntmps38
  go_wp2_with fail
  go_loopw [10] (fun i wr => ∃ k : Nat, i = .int .i64 k ∧ k ≤ l.length ∧ Hid (OptSt w0 M (optPd (l.take k) rs) wr)) (fun i _ => l.length - (intOf i).toNat)
  case atStart => exact ⟨0, rfl, Nat.zero_le _, HS⟩
  case round =>
    clear HS
    obtain ⟨k, rfl, hk, HS⟩ := hrel
    by_cases hlt : k < l.length
    · obtain ⟨⟨id, p, r, z, t, m⟩, hx⟩ := at_lt hlt
      obtain ⟨nm, hnm⟩ : ∃ nm, str id = nm := ⟨_, rfl⟩
      obtain ⟨b, o, rfl, hb, r0, r1, r2, r3, r4, r5⟩ := six_at (H.out.below HS.out.base) hx hnm
      have gk : (k : Int) < (l.length : Int) := by omega
      obtain ⟨w7, hw7⟩ : ∃ W, wr.alloc (boxP nm p r z t m) = W := ⟨_, rfl⟩
      obtain ⟨b7, p0, p1, p2, p3, p4, p5, s7⟩ := box_pd hw7
      have S7 := Lib.hid (HS.out.on b7)
      have ht : Ix64 t := (HK.out _ (List.mem_iff_getElem?.2 ⟨_, hx⟩)).2.2
      have C := Lib.hid (kcov_any id nm p r z t m ht (.slice A2 rs.length n2) rs hrl hrk w7 (HR.out.below S7.out.base))
      have hle : (optPd (l.take k) rs).length ≤ 1000000 := by have := ix_le (fun p => covPd p rs) (l.take k); rw [List.length_take] at this; unfold optPd; omega
      cases hc : covPd (id, p, r, z, t, m) rs with
      | true =>
        rw [hc] at C
        have E : Hid (optPd (l.take (k + 1)) rs = optPd (l.take k) rs ++ [(k : Int)]) := Lib.hid (ix_hit (p := fun p => covPd p rs) hx hc)
        have D := Lib.hid (fun W (hW : OptSt w0 M (optPd (l.take k) rs) W) => kopt1_any w0 M hM (optPd (l.take k) rs) hle (k : Int) W hW)
        clear hx hnm hb b7 HS hle hc
        go_wp2_with fail
        refine C.out.mono ?_
        rintro e w8 ⟨rfl, b8⟩
        have S8 := Lib.hid (S7.out.on b8)
        clear b8 S7 C p0 p1 p2 p3 p4 p5
        go_wp2_with fail
        refine (D.out _ S8.out).mono ?_
        rintro e w9 ⟨rfl, s9⟩
        have S9 : Hid (OptSt w0 M (optPd (l.take (k + 1)) rs) w9) := Lib.hid (by rw [E.out]; exact s9)
        clear s9 S8 D E
        go_wp2_with fail
        go_roundw
        case rel => exact ⟨k + 1, by go_num, by omega, S9⟩
        case measure => simp [intOf]; omega
      | false =>
        rw [hc] at C
        have E : Hid (optPd (l.take (k + 1)) rs = optPd (l.take k) rs) := Lib.hid (ix_miss (p := fun p => covPd p rs) hx hc)
        clear hx hnm hb b7 HS hle hc
        go_wp2_with fail
        refine C.out.mono ?_
        rintro e w8 ⟨rfl, b8⟩
        have S8 : Hid (OptSt w0 M (optPd (l.take (k + 1)) rs) w8) := Lib.hid (by rw [E.out]; exact S7.out.on b8)
        clear b8 S7 C p0 p1 p2 p3 p4 p5 E
        go_wp2_with fail
        go_roundw
        case rel => exact ⟨k + 1, by go_num, by omega, S8⟩
        case measure => simp [intOf]; omega
    · have d : decide (k < l.length) = false := by rw [decide_eq_false_iff_not]; exact hlt
      have R : Hid (OptSt w0 M (optPd l rs) wr) := Lib.hid (by have := HS.out; rw [List.take_of_length_le (by omega)] at this; exact this)
      clear hlt HS
      go_wp2_with fail
      go_end0
      exact ⟨rfl, R.out⟩
set_option maxRecDepth 100000 in
set_option maxHeartbeats 4000000 in
/-- Options. -/
theorem kopts_any (vl : Value) (l : List Pd) (d wi c : Int) (hl : l.length ≤ 1000000) (hok : OkPds l) (vr : Value) (rs : List Ri) (hrl : rs.length ≤ 9223372036854775807) (hrk : OkRis rs) (w : World) (h : LstPd w vl l) (hr : LstRi w vr rs) :
    Calls Try.prog 16 #[faV vl d wi c, vr] w fun e w' => ∃ u, e = .returned u ∧ LstI w' u (optPd l rs) ∧ RowKit.Below w.heap.size w w' := by
  obtain ⟨w7, hw7⟩ : ∃ W, w.alloc (boxFa vl d wi c) = W := ⟨_, rfl⟩
  obtain ⟨b7, p0, p1, p2, p3, s7, -⟩ := box_fa hw7
  obtain ⟨w8, hw8⟩ : ∃ W, w7.alloc (.cells #[.slice none 0 0] 36 (0, 0)) = W := ⟨_, rfl⟩
  have b8 : RowKit.Below w7.heap.size w7 w8 := by rw [← hw8]; exact (RowKit.Below.refl _ _).alloc (Nat.le_refl _) _
  have x8 : Boxed w8 w7.heap.size 36 (.slice none 0 0) := by rw [← hw8]; exact Boxed.new _ _ _
  have q0 := (b8.cell (p := ⟨w.heap.size, 0, none⟩) s7).trans p0
  have S8 : OptSt w w7.heap.size [] w8 := ⟨_, x8, OwnI.nil _ _, b7.trans (b8.mono b7.size)⟩
  have C := Lib.hid (kvis_opt w w7.heap.size (Nat.le_of_lt s7) vl l hl hok vr rs hrl hrk h hr w8 S8)
  obtain ⟨A, n, rfl, -, -, -⟩ := h
  obtain ⟨A2, n2, rfl, -, -, -⟩ := hr
  clear b7 b8 x8 S8 p0 p1 p2 p3 hok hrk
  generalize optPd l rs = os at C ⊢
  go_enter Try.func16, Try.ntmps16
  go_wp2_with fail
  refine C.out.mono ?_
  rintro e w9 ⟨rfl, u, k1, k2, k3⟩
  have m0 := k1.cell
  have K2 := Lib.hid k2
  have K3 := Lib.hid k3
  clear k1 k2 k3 C hw7 hw8 q0 s7
  go_wp2_with fail
  go_ret
  exact ⟨_, rfl, K2.out.lst, K3.out⟩
end Go.Proofs.Ytkpmmojfnhfflaa
