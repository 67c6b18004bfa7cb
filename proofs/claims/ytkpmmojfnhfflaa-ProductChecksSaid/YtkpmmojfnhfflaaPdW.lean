/-
  Cheapest of package product: the closure that keeps the cheapest product, visit with it, the call: what each answers; nothing that existed before the call has changed behind it. Condition: lists of at most 1000000 products.
-/
import Derived.Test.YtkpmmojfnhfflaaPdV
import Derived.Test.YtkpmmojfnhfflaaPdA
import Derived.Test.YtkpmmojfnhfflaaPdC
import Derived.RegionTactic
import Derived.ChangeAlike
namespace Go.Proofs.Ytkpmmojfnhfflaa
open Go.RowKit

/-- The fares lie in block F, the three variables in M, M + 1, M + 2. -/
def ChSt (w0 : World) (F : Nat) (vl : Value) (d wi c : Int) (M : Nat) (q : Option (Nat × Int)) (W : World) : Prop :=
  W.heap[F]? = some (boxFa vl d wi c) ∧ Boxed W M 3 (.int .i64 (chI q)) ∧ Boxed W (M + 1) 3 (.int .i64 (chM q)) ∧ Boxed W (M + 2) 4 (.bool (chB q)) ∧ RowKit.Below w0.heap.size w0 W
section
variable {w0 W W' : World} {F : Nat} {vl : Value} {d wi c : Int} {M : Nat} {q : Option (Nat × Int)}
theorem ChSt.on (h : ChSt w0 F vl d wi c M q W) (b : RowKit.Below W.heap.size W W') : ChSt w0 F vl d wi c M q W' := by
  obtain ⟨h0, h1, h2, h3, h4⟩ := h
  exact ⟨(b.block _ (Array.getElem?_eq_some_iff.1 h0).1).trans h0, (b.block _ h1.lt).trans h1, (b.block _ h2.lt).trans h2, (b.block _ h3.lt).trans h3, h4.trans (b.mono h4.size)⟩
theorem ChSt.base (h : ChSt w0 F vl d wi c M q W) : RowKit.Below w0.heap.size w0 W := h.2.2.2.2
theorem ChSt.cells (h : ChSt w0 F vl d wi c M q W) : W.cell? ⟨F, 0, none⟩ = some vl ∧ (W.cell? ⟨M, 0, none⟩ = some (.int .i64 (chI q)) ∧ W.frozen? ⟨M, 0, none⟩ = false) ∧ (W.cell? ⟨M + 1, 0, none⟩ = some (.int .i64 (chM q)) ∧ W.frozen? ⟨M + 1, 0, none⟩ = false) ∧ W.cell? ⟨M + 2, 0, none⟩ = some (.bool (chB q)) ∧ W.frozen? ⟨M + 2, 0, none⟩ = false := by
  obtain ⟨h0, h1, h2, h3, h4⟩ := h
  exact ⟨(row_fa h0).1, ⟨h1.cell, h1.frozen⟩, ⟨h2.cell, h2.frozen⟩, h3.cell, h3.frozen⟩
theorem ChSt.drew (h : ChSt w0 F vl d wi c M q W) : ChSt w0 F vl d wi c M q W.drew := ⟨h.1, h.2.1, h.2.2.1, h.2.2.2.1, h.2.2.2.2.drew⟩
theorem ChSt.put (h : ChSt w0 F vl d wi c M q W) (hF : F < M) (hM : w0.heap.size ≤ M) (k : Nat) (p : Int) :
    ChSt w0 F vl d wi c M (some (k, p)) (((W.setCell ⟨M, 0, none⟩ (.int .i64 (k : Int))).setCell ⟨M + 1, 0, none⟩ (.int .i64 p)).setCell ⟨M + 2, 0, none⟩ (.bool true)) := by
  obtain ⟨h0, h1, h2, h3, h4⟩ := h
  refine ⟨?_, ?_, ?_, ?_, ?_⟩
  · rw [RowKit.Below.heap_setCell _ _ _ F (by show F ≠ _; simp only; omega), RowKit.Below.heap_setCell _ _ _ F (by show F ≠ _; simp only; omega), RowKit.Below.heap_setCell _ _ _ F (by show F ≠ _; simp only; omega)]
    exact h0
  · exact ((h1.set _).other (by omega) _).other (by omega) _
  · exact ((h2.other (by omega) _).set _).other (by omega) _
  · exact ((h3.other (by omega) _).other (by omega) _).set _
  · exact ((h4.setCell (by show _ ≤ M; omega) _).setCell (by show _ ≤ M + 1; omega) _).setCell (by show _ ≤ M + 2; omega) _
end
abbrev chpV (F M : Nat) : Value := .func (.func 41) #[] #[.pointer (some ⟨F, 0, none⟩), .pointer (some ⟨M + 2, 0, none⟩), .pointer (some ⟨M + 1, 0, none⟩), .pointer (some ⟨M, 0, none⟩)]
theorem cp_enter : ∀ args W, (callFunc 41 args).run Try.prog W = .ok (.enter 41 args) W := enter_of Try.func41 (by kernel_rfl) (by kernel_rfl)
set_option maxRecDepth 100000 in
set_option maxHeartbeats 4000000 in
theorem kchp1_any (w0 : World) (F M : Nat) (hF : F < M) (hM : w0.heap.size ≤ M) (vl : Value) (d wi c : Int) (l : List Pd) (f : Pd → Bool) (q : Option (Nat × Int)) (k : Nat) (x : Pd) (hx : l[k]? = some x) (hf : f x = true) (h : LstPd w0 vl l) (w : World) (S : ChSt w0 F vl d wi c M q w) :
    Calls Try.prog 41 #[.int .i64 (k : Int), .pointer (some ⟨F, 0, none⟩), .pointer (some ⟨M + 2, 0, none⟩), .pointer (some ⟨M + 1, 0, none⟩), .pointer (some ⟨M, 0, none⟩)] w fun e w' => e = .returned (.tuple #[]) ∧ ChSt w0 F vl d wi c M (chS f q k x) w' := by
  obtain ⟨id, p, r, z, t, m⟩ := x
  obtain ⟨nm, hnm⟩ : ∃ nm, str id = nm := ⟨_, rfl⟩
  have hkl := (List.getElem?_eq_some_iff.1 hx).1
  obtain ⟨A, n, rfl, -, -, -⟩ := _root_.id h
  obtain ⟨b, o, rfl, hb, r0, r1, r2, r3, r4, r5⟩ := six_at (h.below S.base) hx hnm
  obtain ⟨s0, -⟩ := S.cells
  obtain ⟨w7, hw7⟩ : ∃ W, w.alloc (boxP nm p r z t m) = W := ⟨_, rfl⟩
  obtain ⟨b7, p0, p1, p2, p3, p4, p5, s7⟩ := box_pd hw7
  have S7 := S.on b7
  obtain ⟨-, ⟨a0, a1⟩, ⟨a2, a3⟩, a4, a5⟩ := S7.cells
  have gk : (k : Int) < (l.length : Int) := by omega
  have PUT := Lib.hid (S7.put hF hM k p).drew
  have KEEP := Lib.hid S7
  have n1 : M + 1 ≠ M := by omega
  have n2 : M + 2 ≠ M := by omega
  have n3 : M + 2 ≠ M + 1 := by omega
  have n4 : M ≠ M + 1 := by omega
  have n5 : M ≠ M + 2 := by omega
  have n6 : M + 1 ≠ M + 2 := by omega
  cases q with
  | none =>
    have R := Lib.hid (chS_first (k := k) hf)
    change w7.cell? _ = some (.int .i64 0) at a0
    change w7.cell? _ = some (.int .i64 0) at a2
    change w7.cell? _ = some (.bool false) at a4
    clear S S7 b7 h hx hnm hb hf
    go_enter Try.func41, Try.ntmps41
    go_wp2_with fail
    go_region
    go_wp2_with fail
    go_end0
    exact ⟨rfl, by rw [R.out]; exact PUT.out⟩
  | some qq =>
    obtain ⟨j, mm⟩ := qq
    change w7.cell? _ = some (.int .i64 (j : Int)) at a0
    change w7.cell? _ = some (.int .i64 mm) at a2
    change w7.cell? _ = some (.bool true) at a4
    by_cases hlt : p < mm
    · have R := Lib.hid (chS_less (k := k) (j := j) hf hlt)
      clear S S7 b7 h hx hnm hb hf
      go_enter Try.func41, Try.ntmps41
      go_wp2_with fail
      go_region
      go_wp2_with fail
      go_end0
      exact ⟨rfl, by rw [R.out]; exact PUT.out⟩
    · have R := Lib.hid (chS_more (k := k) (j := j) hf hlt)
      have g := decide_eq_false hlt
      clear S S7 b7 h hx hnm hb hf hlt
      go_enter Try.func41, Try.ntmps41
      go_wp2_with fail
      go_end0
      exact ⟨rfl, by rw [R.out]; exact KEEP.out⟩
set_option maxRecDepth 100000 in
set_option maxHeartbeats 4000000 in
theorem kvis_chp (w0 : World) (F M : Nat) (hF : F < M) (hM : w0.heap.size ≤ M) (vl : Value) (d wi c : Int) (l : List Pd) (hl : l.length ≤ 1000000) (hok : OkPds l) (vr : Value) (rs : List Ri) (hrl : rs.length ≤ 9223372036854775807) (hrk : OkRis rs)
    (h : LstPd w0 vl l) (hr : LstRi w0 vr rs) (w : World) (S : ChSt w0 F vl d wi c M none w) :
    Calls Try.prog 38 #[vl, vr, chpV F M] w fun e w' => e = .returned (.tuple #[]) ∧ ChSt w0 F vl d wi c M (chP (fun p => covPd p rs) l) w' := by
  have H := Lib.hid h
  have HR := Lib.hid hr
  have HS := Lib.hid S
  have HK := Lib.hid hok
  obtain ⟨A, n, rfl, -, -, -⟩ := h
  obtain ⟨A2, n2, rfl, -, -, -⟩ := hr
  have ce := cp_enter
  obtain ⟨g, hg⟩ : ∃ g, g = fun p => covPd p rs := ⟨_, rfl⟩
  rw [← hg]
  have HG := Lib.hid hg
  have ST := Lib.hid (ch_start (c := g) (l := l))
  clear S hok hg
  go_enter Try.func38, Try.ntmps38
  go_wp2_with fail
  go_loopw [10] (fun i wr => ∃ (k : Nat) (q : Option (Nat × Int)), i = .int .i64 k ∧ k ≤ l.length ∧ Hid (chP g l = chF g k q (l.drop k)) ∧ Hid (ChSt w0 F (.slice A l.length n) d wi c M q wr)) (fun i _ => l.length - (intOf i).toNat)
  case atStart => exact ⟨0, none, rfl, Nat.zero_le _, ST, HS⟩
  case round =>
    clear HS ST
    obtain ⟨k, q, rfl, hk, hq, HS⟩ := hrel
    by_cases hlt : k < l.length
    · obtain ⟨⟨id, p, r, z, t, m⟩, hx⟩ := at_lt hlt
      obtain ⟨nm, hnm⟩ : ∃ nm, str id = nm := ⟨_, rfl⟩
      obtain ⟨b, o, rfl, hb, r0, r1, r2, r3, r4, r5⟩ := six_at (H.out.below HS.out.base) hx hnm
      have gk : (k : Int) < (l.length : Int) := by omega
      obtain ⟨w7, hw7⟩ : ∃ W, wr.alloc (boxP nm p r z t m) = W := ⟨_, rfl⟩
      obtain ⟨b7, p0, p1, p2, p3, p4, p5, s7⟩ := box_pd hw7
      have S7 := Lib.hid (HS.out.on b7)
      have ht : Ix64 t := (HK.out _ (List.mem_iff_getElem?.2 ⟨_, hx⟩)).2.2
      have C := Lib.hid (kcov_any id nm p r z t m ht (.slice A2 rs.length n2) rs hrl hrk w7 (HR.out.below S7.out.base))
      have N : Hid (chP g l = chF g (k + 1) (chS g q k (id, p, r, z, t, m)) (l.drop (k + 1))) := Lib.hid (by rw [hq.out]; exact ch_next hx)
      have hgx : covPd (id, p, r, z, t, m) rs = g (id, p, r, z, t, m) := by rw [HG.out]
      rw [hgx] at C
      cases hc : g (id, p, r, z, t, m) with
      | true =>
        rw [hc] at C
        have D := Lib.hid (fun W (hW : ChSt w0 F (.slice (some ⟨b, o, none⟩) l.length n) d wi c M q W) => kchp1_any w0 F M hF hM _ d wi c l g q k _ hx hc H.out W hW)
        generalize chS g q k (id, p, r, z, t, m) = q2 at D N
        clear hx hnm hb b7 HS hc hgx hq ht
        go_wp2_with fail
        refine C.out.mono ?_
        rintro e w8 ⟨rfl, b8⟩
        have S8 := Lib.hid (S7.out.on b8)
        clear b8 S7 C p0 p1 p2 p3 p4 p5
        go_wp2_with fail
        refine (D.out _ S8.out).mono ?_
        rintro e w9 ⟨rfl, s9⟩
        have S9 := Lib.hid s9
        clear s9 S8 D
        go_wp2_with fail
        go_roundw
        case rel => exact ⟨k + 1, q2, by go_num, by omega, N, S9⟩
        case measure => simp [intOf]; omega
      | false =>
        rw [hc] at C
        rw [chS_no hc] at N
        clear hx hnm hb b7 HS hc hgx hq ht
        go_wp2_with fail
        refine C.out.mono ?_
        rintro e w8 ⟨rfl, b8⟩
        have S8 := Lib.hid (S7.out.on b8)
        clear b8 S7 C p0 p1 p2 p3 p4 p5
        go_wp2_with fail
        go_roundw
        case rel => exact ⟨k + 1, q, by go_num, by omega, N, S8⟩
        case measure => simp [intOf]; omega
    · have dk : decide (k < l.length) = false := by rw [decide_eq_false_iff_not]; exact hlt
      have R : Hid (ChSt w0 F (.slice A l.length n) d wi c M (chP g l) wr) := Lib.hid (by rw [hq.out, ch_end (by omega)]; exact HS.out)
      clear hlt HS hq
      go_wp2_with fail
      go_end0
      exact ⟨rfl, R.out⟩
/-- Three new variables. -/
theorem three_new (w : World) : ∃ W, (((w.alloc (.cells #[.int .i64 0] 3 (0, 0))).alloc (.cells #[.int .i64 0] 3 (0, 0))).alloc (.cells #[.bool false] 4 (0, 0))) = W ∧ RowKit.Below w.heap.size w W ∧ w.heap.size + 3 = W.heap.size ∧
    Boxed W w.heap.size 3 (.int .i64 0) ∧ Boxed W (w.heap.size + 1) 3 (.int .i64 0) ∧ Boxed W (w.heap.size + 2) 4 (.bool false) := by
  have z1 : (w.alloc (.cells #[.int .i64 0] 3 (0, 0))).heap.size = w.heap.size + 1 := by simp
  have z2 : ((w.alloc (.cells #[.int .i64 0] 3 (0, 0))).alloc (.cells #[.int .i64 0] 3 (0, 0))).heap.size = w.heap.size + 2 := by simp
  have h1 := Boxed.new w 3 (.int .i64 0)
  have h2 := Boxed.new (w.alloc (.cells #[.int .i64 0] 3 (0, 0))) 3 (.int .i64 0)
  have h3 := Boxed.new ((w.alloc (.cells #[.int .i64 0] 3 (0, 0))).alloc (.cells #[.int .i64 0] 3 (0, 0))) 4 (.bool false)
  rw [z1] at h2
  rw [z2] at h3
  exact ⟨_, rfl, (((RowKit.Below.refl _ _).alloc (Nat.le_refl _) _).alloc (by rw [z1]; omega) _).alloc (by rw [z2]; omega) _, by simp, (h1.alloc _).alloc _, h2.alloc _, h3⟩
theorem box_same {W : World} {B : Nat} {t : TypeId} {v : Value} (h : Boxed W B t v) : W.setCell ⟨B, 0, none⟩ v = W := by
  unfold World.setCell
  cases W with
  | mk hp tape drawn os out =>
    simp only at h ⊢
    congr 1
    refine Array.ext_getElem? fun j => ?_
    rw [Array.getElem?_modify]
    split
    · next e =>
      subst e
      rw [show hp[B]? = _ from h]
      simp
    · rfl
theorem ret_che {a b c d : Int} {e f : Bool} (h : a = b) (k : c = d) (j : e = f) : Ending.returned (.tuple #[.int .i64 a, .int .i64 c, .bool e]) = .returned (.tuple #[.int .i64 b, .int .i64 d, .bool f]) := by rw [h, k, j]
set_option maxRecDepth 100000 in
set_option maxHeartbeats 4000000 in
/-- Cheapest. -/
theorem kche_any (vl : Value) (l : List Pd) (d wi c : Int) (hl : l.length ≤ 1000000) (hok : OkPds l) (vr : Value) (rs : List Ri) (hrl : rs.length ≤ 9223372036854775807) (hrk : OkRis rs) (w : World) (h : LstPd w vl l) (hr : LstRi w vr rs) :
    Calls Try.prog 20 #[faV vl d wi c, vr] w fun e w' => e = .returned (.tuple #[.int .i64 ((chA d wi c l rs).1), .int .i64 ((chA d wi c l rs).2.1), .bool ((chA d wi c l rs).2.2)]) ∧ Below w.heap.size w w' := by
  obtain ⟨w7, hw7⟩ : ∃ W, w.alloc (boxFa vl d wi c) = W := ⟨_, rfl⟩
  obtain ⟨b7, p0, p1, p2, p3, s7, h7⟩ := box_fa hw7
  have B7 := Lib.hid b7
  have V := Lib.hid (kvalid_any vl l d wi c (by omega) w7 (h.below b7))
  have H := Lib.hid h
  have HR := Lib.hid hr
  obtain ⟨A, n, rfl, -, -, -⟩ := h
  obtain ⟨A2, n2, rfl, -, -, -⟩ := hr
  by_cases hv : (chkPd d wi c l).2 = 0
  · rw [decide_eq_true hv] at V
    have R := Lib.hid (chA_of (rs := rs) hv)
    generalize chA d wi c l rs = ans at R ⊢
    have CC := Lib.hid (fun F M hF hM W (hW : ChSt w F (.slice A l.length n) d wi c M none W) => kvis_chp w F M hF hM (.slice A l.length n) d wi c l hl hok (.slice A2 rs.length n2) rs hrl hrk H.out HR.out W hW)
    generalize chP (fun p => covPd p rs) l = q at CC R
    have H7 := Lib.hid h7
    clear b7 hok hrk hv h7
    go_enter Try.func20, Try.ntmps20
    go_wp2_with fail
    refine V.out.mono ?_
    rintro e w8 ⟨rfl, b8⟩
    obtain ⟨w9, hw9, b9, z9, k0, k1, k2⟩ := three_new w8
    have m0 := (b8.cell (p := ⟨w.heap.size, 0, none⟩) s7).trans p0
    have s8 : w.heap.size < w8.heap.size := Nat.lt_of_lt_of_le s7 b8.size
    have m9 := (b9.cell (p := ⟨w.heap.size, 0, none⟩) s8).trans m0
    have B9 : Hid (RowKit.Below w.heap.size w w9) := (B7.out.trans (b8.mono B7.out.size)).trans (b9.mono (Nat.le_of_lt s8))
    have S9 : Hid (ChSt w w.heap.size (.slice A l.length n) d wi c w8.heap.size none w9) := Lib.hid ⟨(b9.block _ s8).trans ((b8.block _ s7).trans H7.out), k0, k1, k2, B9.out⟩
    have C := Lib.hid (CC.out w.heap.size w8.heap.size s8 (Nat.le_of_lt s8) w9 S9.out)
    have c0 := k0.cell
    have c1 := k1.cell
    have c2 := k2.cell
    have f0 := k0.frozen
    have f1 := k1.frozen
    have f2 := k2.frozen
    have e0 := box_same k0
    have e1 := box_same k1
    have e2 := box_same k2
    clear b8 b9 k0 k1 k2 CC V p0 p1 p2 p3 B7 S9 B9 z9 H7
    go_wp2_with fail
    refine C.out.mono ?_
    rintro e w10 ⟨rfl, s10⟩
    obtain ⟨-, ⟨a0, -⟩, ⟨a2, -⟩, a4, -⟩ := s10.cells
    have B10 := Lib.hid s10.base
    clear s10 C
    go_wp2_with fail
    go_quiet (fail)
    go_wp2_with fail
    go_ret3
    exact ⟨ret_che (by rw [R.out]) (by rw [R.out]) (by rw [R.out]), below_drewN B10.out _⟩
  · rw [decide_eq_false hv] at V
    have R := Lib.hid (chA_bad (rs := rs) hv)
    generalize chA d wi c l rs = ans at R ⊢
    clear b7 hok hrk hv h7 s7
    go_enter Try.func20, Try.ntmps20
    go_wp2_with fail
    refine V.out.mono ?_
    rintro e w8 ⟨rfl, b8⟩
    have B8 : Hid (RowKit.Below w.heap.size w w8) := B7.out.trans (b8.mono B7.out.size)
    clear b8 B7 V
    go_wp2_with fail
    go_ret3
    exact ⟨ret_che (by rw [R.out]) (by rw [R.out]) (by rw [R.out]), B8.out⟩
end Go.Proofs.Ytkpmmojfnhfflaa
