/-
  Frequencies in memory: the cells of a frequency, a frequency put into a box of its own; the small functions on frequencies and times of the code and of its reference: what each call answers. Condition: none beyond each theorem's own hypotheses. slices.ContainsFunc over frequencies, its closures; Repeated of package frequency and of its reference: what each call answers; nothing that existed before the call has changed behind it. Condition: lists of at most 1000 frequencies.
-/
import Derived.Test.YtkhalnjgbdpfhaaGreatShT
import Derived.Test.YtkhalnjgbdpfhaaGreatShP
import Derived.Lib.Hide
namespace Go.Proofs.YtkhalnjgbdpfhaaGreat
open Go.RowKit

/-- A frequency as cells. -/
def fe (x : Fq) : List Value := [.int .i64 x.1, .int .i64 x.2.1, .int .i64 x.2.2.1, .int .i64 x.2.2.2]
theorem fe_len (x : Fq) : (fe x).length = 4 := rfl
abbrev LstF := @LstG Fq fe
/-- The four cells of a frequency. -/
theorem four_at {w : World} {A : Option Addr} {n c : Nat} {l : List Fq} (h : LstF w (.slice A n c) l) {i : Nat} {t a b v : Int} (hs : l[i]? = some (t, a, b, v)) :
    ∃ k f, A = some ⟨k, f, none⟩ ∧ k < w.heap.size ∧ w.cell? ⟨k, f + i * 4, none⟩ = some (.int .i64 t) ∧ w.cell? ⟨k, f + i * 4 + 1, none⟩ = some (.int .i64 a) ∧ w.cell? ⟨k, f + i * 4 + 2, none⟩ = some (.int .i64 b) ∧ w.cell? ⟨k, f + i * 4 + 3, none⟩ = some (.int .i64 v) := by
  obtain ⟨A', c', hv, _, _, hx⟩ := h
  cases hv
  have hi := (List.getElem?_eq_some_iff.1 hs).1
  obtain ⟨k, f, rfl, hb, hcell⟩ := hx (by omega)
  exact ⟨k, f, rfl, hb, hcell (i * 4) _ (by rw [← Nat.add_zero (i * 4), fl_at fe_len hs 0 (by omega)]; rfl), (hcell (i * 4 + 1) _ (by rw [fl_at fe_len hs 1 (by omega)]; rfl) : _), (hcell (i * 4 + 2) _ (by rw [fl_at fe_len hs 2 (by omega)]; rfl) : _), (hcell (i * 4 + 3) _ (by rw [fl_at fe_len hs 3 (by omega)]; rfl) : _)⟩
/-- A frequency in a box. -/
abbrev boxF (t a b v : Int) : Obj := .cells #[.int .i64 t, .int .i64 a, .int .i64 b, .int .i64 v] 77 (0, 0)
theorem row_fq {w : World} {k : Nat} {t a b v : Int} (h : w.heap[k]? = some (boxF t a b v)) :
    w.cell? ⟨k, 0, none⟩ = some (.int .i64 t) ∧ w.cell? ⟨k, 1, none⟩ = some (.int .i64 a) ∧ w.cell? ⟨k, 2, none⟩ = some (.int .i64 b) ∧ w.cell? ⟨k, 3, none⟩ = some (.int .i64 v) :=
  ⟨by rw [cell_of_row _ _ 0 _ _ _ h]; rfl, by rw [cell_of_row _ _ 1 _ _ _ h]; rfl, by rw [cell_of_row _ _ 2 _ _ _ h]; rfl, by rw [cell_of_row _ _ 3 _ _ _ h]; rfl⟩
theorem box_fq {w w7 : World} {t a b v : Int} (h : w.alloc (boxF t a b v) = w7) :
    Below w.heap.size w w7 ∧ w7.cell? ⟨w.heap.size, 0, none⟩ = some (.int .i64 t) ∧ w7.cell? ⟨w.heap.size, 1, none⟩ = some (.int .i64 a) ∧ w7.cell? ⟨w.heap.size, 2, none⟩ = some (.int .i64 b) ∧ w7.cell? ⟨w.heap.size, 3, none⟩ = some (.int .i64 v) ∧ w.heap.size < w7.heap.size ∧ w7.heap[w.heap.size]? = some (boxF t a b v) := by
  subst h
  have c7 := heap_alloc_new w (boxF t a b v)
  obtain ⟨h0, h1, h2, h3⟩ := row_fq c7
  exact ⟨(Below.refl _ _).alloc (Nat.le_refl _) _, h0, h1, h2, h3, by simp, c7⟩
/-- A frequency as a value. -/
abbrev fqV (t a b v : Int) : Value := .agg #[.int .i64 t, .int .i64 a, .int .i64 b, .int .i64 v]

set_option maxRecDepth 100000 in
set_option maxHeartbeats 4000000 in
theorem ksnd_any (t a b v : Int) (w : World) : Calls Tryz.prog 113 #[fqV t a b v] w fun e w' => e = .returned (.bool (sndF (t, a, b, v))) ∧ Below w.heap.size w w' := by
  obtain ⟨w7, hw7⟩ : ∃ W, w.alloc (boxF t a b v) = W := ⟨_, rfl⟩
  obtain ⟨b7, p0, p1, p2, p3, s7, c7⟩ := box_fq hw7
  have B7 := Lib.hid b7
  clear b7 c7 s7
  by_cases n0 : ¬ (0 ≤ a)
  · have h0 := n0
    clear n0
    have g0 : decide (0 ≤ a) = false := decide_eq_false h0
    have R := Lib.hid (snd_no (t := t) (a := a) (b := b) (e := v) (by omega))
    clear h0
    go_enter Tryz.func113, Tryz.ntmps113
    go_wp2_with fail
    go_ret
    exact ⟨ret_bool R.out.symm, B7.out⟩
  have h0 := Decidable.not_not.1 n0
  clear n0
  by_cases n1 : ¬ (a < b)
  · have h1 := n1
    clear n1
    have g1 : decide (a < b) = false := decide_eq_false h1
    have R := Lib.hid (snd_no (t := t) (a := a) (b := b) (e := v) (by omega))
    clear h1
    go_enter Tryz.func113, Tryz.ntmps113
    go_wp2_with fail
    go_ret
    exact ⟨ret_bool R.out.symm, B7.out⟩
  have h1 := Decidable.not_not.1 n1
  clear n1
  by_cases n2 : ¬ (b ≤ 172800)
  · have h2 := n2
    clear n2
    have g2 : decide (b ≤ 172800) = false := decide_eq_false h2
    have R := Lib.hid (snd_no (t := t) (a := a) (b := b) (e := v) (by omega))
    clear h2
    go_enter Tryz.func113, Tryz.ntmps113
    go_wp2_with fail
    go_ret
    exact ⟨ret_bool R.out.symm, B7.out⟩
  have h2 := Decidable.not_not.1 n2
  clear n2
  by_cases n3 : ¬ (1 ≤ v)
  · have h3 := n3
    clear n3
    have g3 : decide (1 ≤ v) = false := decide_eq_false h3
    have R := Lib.hid (snd_no (t := t) (a := a) (b := b) (e := v) (by omega))
    clear h3
    go_enter Tryz.func113, Tryz.ntmps113
    go_wp2_with fail
    go_ret
    exact ⟨ret_bool R.out.symm, B7.out⟩
  have h3 := Decidable.not_not.1 n3
  clear n3
  by_cases n4 : ¬ (v ≤ 86400)
  · have h4 := n4
    clear n4
    have g4 : decide (v ≤ 86400) = false := decide_eq_false h4
    have R := Lib.hid (snd_no (t := t) (a := a) (b := b) (e := v) (by omega))
    clear h4
    go_enter Tryz.func113, Tryz.ntmps113
    go_wp2_with fail
    go_ret
    exact ⟨ret_bool R.out.symm, B7.out⟩
  have h4 := Decidable.not_not.1 n4
  clear n4
  have R := Lib.hid ((snd_iff (t := t) (a := a) (b := b) (e := v)).2 ⟨h0, h1, h2, h3, h4⟩)
  go_enter Tryz.func113, Tryz.ntmps113
  go_wp2_with fail
  go_ret
  exact ⟨ret_bool R.out.symm, B7.out⟩
set_option maxRecDepth 100000 in
set_option maxHeartbeats 4000000 in
theorem rsnd_any (t a b v : Int) (w : World) : Calls Tryz.prog 99 #[fqV t a b v] w fun e w' => e = .returned (.bool (sndF (t, a, b, v))) ∧ Below w.heap.size w w' := by
  obtain ⟨w7, hw7⟩ : ∃ W, w.alloc (boxF t a b v) = W := ⟨_, rfl⟩
  obtain ⟨b7, p0, p1, p2, p3, s7, c7⟩ := box_fq hw7
  have B7 := Lib.hid b7
  clear b7 c7 s7
  by_cases n0 : ¬ (0 ≤ a)
  · have h0 := n0
    clear n0
    have g0 : decide (0 ≤ a) = false := decide_eq_false h0
    have R := Lib.hid (snd_no (t := t) (a := a) (b := b) (e := v) (by omega))
    clear h0
    go_enter Tryz.func99, Tryz.ntmps99
    go_wp2_with fail
    go_ret
    exact ⟨ret_bool R.out.symm, B7.out⟩
  have h0 := Decidable.not_not.1 n0
  clear n0
  by_cases n1 : ¬ (a ≤ 172800)
  · have h1 := n1
    clear n1
    have g1 : decide (a ≤ 172800) = false := decide_eq_false h1
    have R := Lib.hid (snd_no (t := t) (a := a) (b := b) (e := v) (by omega))
    clear h1
    go_enter Tryz.func99, Tryz.ntmps99
    go_wp2_with fail
    go_ret
    exact ⟨ret_bool R.out.symm, B7.out⟩
  have h1 := Decidable.not_not.1 n1
  clear n1
  by_cases n2 : ¬ (0 ≤ b)
  · have h2 := n2
    clear n2
    have g2 : decide (0 ≤ b) = false := decide_eq_false h2
    have R := Lib.hid (snd_no (t := t) (a := a) (b := b) (e := v) (by omega))
    clear h2
    go_enter Tryz.func99, Tryz.ntmps99
    go_wp2_with fail
    go_ret
    exact ⟨ret_bool R.out.symm, B7.out⟩
  have h2 := Decidable.not_not.1 n2
  clear n2
  by_cases n3 : ¬ (b ≤ 172800)
  · have h3 := n3
    clear n3
    have g3 : decide (b ≤ 172800) = false := decide_eq_false h3
    have R := Lib.hid (snd_no (t := t) (a := a) (b := b) (e := v) (by omega))
    clear h3
    go_enter Tryz.func99, Tryz.ntmps99
    go_wp2_with fail
    go_ret
    exact ⟨ret_bool R.out.symm, B7.out⟩
  have h3 := Decidable.not_not.1 n3
  clear n3
  by_cases n4 : ¬ (a < b)
  · have h4 := n4
    clear n4
    have g4 : decide (a < b) = false := decide_eq_false h4
    have R := Lib.hid (snd_no (t := t) (a := a) (b := b) (e := v) (by omega))
    clear h4
    go_enter Tryz.func99, Tryz.ntmps99
    go_wp2_with fail
    go_ret
    exact ⟨ret_bool R.out.symm, B7.out⟩
  have h4 := Decidable.not_not.1 n4
  clear n4
  by_cases n5 : ¬ (1 ≤ v)
  · have h5 := n5
    clear n5
    have g5 : decide (1 ≤ v) = false := decide_eq_false h5
    have R := Lib.hid (snd_no (t := t) (a := a) (b := b) (e := v) (by omega))
    clear h5
    go_enter Tryz.func99, Tryz.ntmps99
    go_wp2_with fail
    go_ret
    exact ⟨ret_bool R.out.symm, B7.out⟩
  have h5 := Decidable.not_not.1 n5
  clear n5
  by_cases n6 : ¬ (v ≤ 86400)
  · have h6 := n6
    clear n6
    have g6 : decide (v ≤ 86400) = false := decide_eq_false h6
    have R := Lib.hid (snd_no (t := t) (a := a) (b := b) (e := v) (by omega))
    clear h6
    go_enter Tryz.func99, Tryz.ntmps99
    go_wp2_with fail
    go_ret
    exact ⟨ret_bool R.out.symm, B7.out⟩
  have h6 := Decidable.not_not.1 n6
  clear n6
  have R := Lib.hid ((snd_iff (t := t) (a := a) (b := b) (e := v)).2 ⟨h0, h4, h3, h5, h6⟩)
  go_enter Tryz.func99, Tryz.ntmps99
  go_wp2_with fail
  go_ret
  exact ⟨ret_bool R.out.symm, B7.out⟩
set_option maxRecDepth 100000 in
set_option maxHeartbeats 4000000 in
theorem kovl_any (t a b v t' a' b' v' : Int) (w : World) : Calls Tryz.prog 119 #[fqV t a b v, fqV t' a' b' v'] w fun e w' => e = .returned (.bool (ovlF (t, a, b, v) (t', a', b', v'))) ∧ Below w.heap.size w w' := by
  obtain ⟨w7, hw7, -, ra, rb, b7⟩ := box_both w (boxF t a b v) (boxF t' a' b' v')
  obtain ⟨p0, p1, p2, p3⟩ := row_fq ra
  obtain ⟨q0, q1, q2, q3⟩ := row_fq rb
  have B7 := Lib.hid b7
  clear b7 ra rb
  by_cases n0 : ¬ a < b'
  · have h0 := n0
    clear n0
    have g0 : decide (a < b') = false := decide_eq_false h0
    have R := Lib.hid (ovl_a (f := (t, a, b, v)) (g := (t', a', b', v')) h0)
    clear h0
    go_enter Tryz.func119, Tryz.ntmps119
    go_wp2_with fail
    go_ret
    exact ⟨ret_bool R.out.symm, B7.out⟩
  have h0 := Decidable.not_not.1 n0
  clear n0
  by_cases n1 : ¬ a' < b
  · have h1 := n1
    clear n1
    have g1 : decide (a' < b) = false := decide_eq_false h1
    have R := Lib.hid (ovl_b (f := (t, a, b, v)) (g := (t', a', b', v')) h1)
    clear h1
    go_enter Tryz.func119, Tryz.ntmps119
    go_wp2_with fail
    go_ret
    exact ⟨ret_bool R.out.symm, B7.out⟩
  have h1 := Decidable.not_not.1 n1
  clear n1
  have R := Lib.hid (ovl_yes (f := (t, a, b, v)) (g := (t', a', b', v')) h0 h1)
  go_enter Tryz.func119, Tryz.ntmps119
  go_wp2_with fail
  go_ret
  exact ⟨ret_bool R.out.symm, B7.out⟩
theorem tdiv_cnt {t a b v : Int} (h : sndF (t, a, b, v) = true) : (b - a - 1).tdiv v + 1 = ((cntF (t, a, b, v) : Nat) : Int) := by
  obtain ⟨h1, h2, h3, h4, h5⟩ := snd_iff.1 h
  have q0 : 0 ≤ (b - a - 1) / v := Int.ediv_nonneg (by omega) (by omega)
  unfold cntF
  rw [Int.tdiv_eq_ediv_of_nonneg (by omega)]
  simp only
  omega
set_option maxRecDepth 100000 in
set_option maxHeartbeats 4000000 in
theorem rcnt_any (t a b v : Int) (h : sndF (t, a, b, v) = true) (w : World) : Calls Tryz.prog 101 #[fqV t a b v] w fun e w' => e = .returned (.int .i64 ((cntF (t, a, b, v) : Nat) : Int)) ∧ Below w.heap.size w w' := by
  obtain ⟨w7, hw7⟩ : ∃ W, w.alloc (boxF t a b v) = W := ⟨_, rfl⟩
  obtain ⟨b7, p0, p1, p2, p3, s7, c7⟩ := box_fq hw7
  have B7 := Lib.hid b7
  clear b7 c7 s7
  obtain ⟨h1, h2, h3, h4, h5⟩ := snd_iff.1 h
  have R := Lib.hid (tdiv_cnt h)
  have L := Lib.hid (cnt_le h)
  clear h
  have q0 : 0 ≤ (b - a - 1).tdiv v := by
    rw [Int.tdiv_eq_ediv_of_nonneg (by omega)]
    exact Int.ediv_nonneg (by omega) (by omega)
  have q1 : (b - a - 1).tdiv v ≤ 172800 := by have := R.out; have := L.out; omega
  have e0 : v ≠ 0 := by omega
  go_enter Tryz.func101, Tryz.ntmps101
  go_wp2_with fail
  go_ret
  exact ⟨ret_int (by first | exact R.out | (rw [← R.out]; simp)), B7.out⟩
end Go.Proofs.YtkhalnjgbdpfhaaGreat
namespace Go.Proofs.YtkhalnjgbdpfhaaGreat
open Go.RowKit

theorem info_fq : (Tryz.prog.info? 77).map (fun i => (i.zero, i.size, i.bytes)) = some (some (.agg #[.int .i64 0, .int .i64 0, .int .i64 0, .int .i64 0]), 4, 32) := by kernel_rfl
theorem size_freq : ∀ w, (Go.sizeOf 77).run Tryz.prog w = .ok 4 w := fun w => by
  obtain ⟨i, hi, _, hsz, _⟩ := info_parts info_fq
  simp [sizeOf, typeInfo, hi, hsz]
theorem elem_freqs : Tryz.prog.elem 27 = 77 := by simp [Program.elem, Tryz.underlying27]
theorem under_freqs : Tryz.prog.underlying 27 = some (.slice (Tryz.prog.elem 27)) := by rw [elem_freqs]; exact Tryz.underlying27
/-- The part l[:j]. -/
theorem freqs_to {w : World} {vl : Value} {l : List Fq} (h : LstF w vl l) (j : Nat) (hj : j ≤ l.length) (_ : l.length ≤ 9223372036854775807) (x : Int) (hx : x = j) : ∃ u, (∀ W, (Instr.slice 27 vl none (some (.int .i64 x)) none).run Tryz.prog W = .ok u W) ∧ LstF w u (l.take j) := by
  subst hx
  have H := h
  obtain ⟨A, c, rfl, hc, -, -⟩ := h
  refine ⟨sliced A 0 j c 4, fun W => ?_, ?_⟩
  · rw [run_slice_h W 27 A l.length c under_freqs .i64 j (by omega) (by omega), elem_freqs, size_freq]
    rfl
  · have := LstG.part fe_len H 0 j c (Nat.zero_le _) hj (by omega) (Nat.le_refl _)
    rw [List.drop_zero, Nat.sub_zero] at this
    exact this
theorem enter_of {P : Program} {K : FuncId} {fn : Func} (hf : P.funcs[K]? = some fn) (hn : (fn.name == "runtime.NumGoroutine") = false) (hb : fn.body.isNone = false) : ∀ args W, (callFunc K args).run P W = .ok (.enter K args) W := by
  intro args W
  unfold callFunc
  simp at hn
  simp [hf, hn]
  intro h0
  rw [h0] at hb
  cases hb
theorem any_fd {α : Type} (p : α → Bool) (l : List α) : decide (0 ≤ fdT p l) = l.any p := by
  cases h : l.any p with
  | true =>
    obtain ⟨x, hx, hp⟩ := List.any_eq_true.1 h
    refine decide_eq_true ?_
    rcases fd_range p l with h1 | h1
    · exfalso
      have : ∀ (r : List α) (k : Nat), fdF p k r = -1 → ∀ z ∈ r, p z = false := by
        intro r
        induction r with
        | nil => intro k _ z hz; cases hz
        | cons y r ih =>
          intro k hk z hz
          unfold fdF at hk
          split at hk
          · omega
          · next hy =>
            rcases List.mem_cons.1 hz with rfl | hz
            · exact Bool.eq_false_iff.2 hy
            · exact ih _ hk z hz
      have := this l 0 h1 x hx
      rw [hp] at this
      cases this
    · exact h1.1
  | false =>
    refine decide_eq_false fun h0 => ?_
    obtain ⟨j, x, hx, hp, -⟩ := fd_mem (p := p) (l := l) (by omega)
    rw [List.any_eq_false] at h
    exact h x (List.mem_iff_getElem?.2 ⟨j, hx⟩) hp
set_option maxRecDepth 100000 in
set_option maxHeartbeats 4000000 in
/-- The index of the first one with the property, for any closure over one variable that answers it. -/
theorem kidx_any (g : Nat) (cv : Value) (p : Fq → Bool) (ce : ∀ args W, (callFunc g args).run Tryz.prog W = .ok (.enter g args) W) (vl : Value) (l : List Fq) (hl : l.length ≤ 1000) (w : World) (h : LstF w vl l)
    (hp : ∀ (k : Nat) (t a b v : Int), l[k]? = some (t, a, b, v) → ∀ W, Below w.heap.size w W → Calls Tryz.prog g #[fqV t a b v, cv] W fun e W' => e = .returned (.bool (p (t, a, b, v))) ∧ Below W.heap.size W W') :
    Calls Tryz.prog 143 #[vl, .func (.func g) #[] #[cv]] w fun e w' => e = .returned (.int .i64 (fdT p l)) ∧ Below w.heap.size w w' := by
  have H := Lib.hid h
  obtain ⟨A, n, rfl, -, -, -⟩ := h
  have HP := Lib.hid hp
  obtain ⟨q, hq⟩ : ∃ q, fdT p l = q := ⟨_, rfl⟩
  rw [hq]
  have HR := Lib.hid hq
  clear hq hp
  go_enter Tryz.func143, Tryz.ntmps143
  go_wp2_with fail
  go_loopw [8] (fun i wr => ∃ k : Nat, i = .int .i64 k ∧ k ≤ l.length ∧ Hid (q = fdF p k (l.drop k)) ∧ Hid (Below w.heap.size w wr)) (fun i _ => l.length - (intOf i).toNat)
  case atStart => exact ⟨0, rfl, Nat.zero_le _, Lib.hid (by rw [← HR.out]; rfl), Lib.hid (Below.refl _ _)⟩
  case round =>
    obtain ⟨k, rfl, hk, hz, HB⟩ := hrel
    by_cases hlt : k < l.length
    · obtain ⟨⟨t, a, b, v⟩, hf⟩ := at_lt hlt
      obtain ⟨c, o, rfl, hc, m0, m1, m2, m3⟩ := four_at (H.out.below HB.out) hf
      have gk : (k : Int) < (l.length : Int) := by omega
      have C := Lib.hid (HP.out k t a b v hf wr HB.out)
      cases hv : p (t, a, b, v) with
      | true =>
        rw [hv] at C
        have R := Lib.hid (fd_hit hz.out hf hv)
        clear hz hf hc hv hlt HR HP
        go_wp2_with fail
        refine C.out.mono ?_
        rintro e w1 ⟨rfl, b1⟩
        have B1 : Hid (Below w.heap.size w w1) := HB.out.trans (b1.mono HB.out.size)
        clear b1 C
        go_wp2_with fail
        go_ret
        exact ⟨ret_int R.out.symm, B1.out⟩
      | false =>
        rw [hv] at C
        have N := Lib.hid (fd_miss hz.out hf hv)
        clear hz hf hc hv
        go_wp2_with fail
        refine C.out.mono ?_
        rintro e w1 ⟨rfl, b1⟩
        have B1 : Hid (Below w.heap.size w w1) := HB.out.trans (b1.mono HB.out.size)
        clear b1 C HB
        go_wp2_with fail
        go_roundw
        case rel => exact ⟨k + 1, by go_num, by omega, N, B1⟩
        case measure => simp [intOf]; omega
    · have R := Lib.hid (fd_end hz.out (by omega))
      have d : decide (k < l.length) = false := by rw [decide_eq_false_iff_not]; exact hlt
      clear hz hlt HR HP
      go_wp2_with fail
      go_ret
      exact ⟨ret_int R.out.symm, HB.out⟩
set_option maxRecDepth 100000 in
set_option maxHeartbeats 4000000 in
theorem kcont_any (g : Nat) (cv : Value) (p : Fq → Bool) (ce : ∀ args W, (callFunc g args).run Tryz.prog W = .ok (.enter g args) W) (vl : Value) (l : List Fq) (hl : l.length ≤ 1000) (w : World) (h : LstF w vl l)
    (hp : ∀ (k : Nat) (t a b v : Int), l[k]? = some (t, a, b, v) → ∀ W, Below w.heap.size w W → Calls Tryz.prog g #[fqV t a b v, cv] W fun e W' => e = .returned (.bool (p (t, a, b, v))) ∧ Below W.heap.size W W') :
    Calls Tryz.prog 117 #[vl, .func (.func g) #[] #[cv]] w fun e w' => e = .returned (.bool (l.any p)) ∧ Below w.heap.size w w' := by
  have C := Lib.hid (kidx_any g cv p ce vl l hl w h hp)
  have R := Lib.hid (any_fd p l)
  generalize fdT p l = q at C R
  clear hp
  go_enter Tryz.func117, Tryz.ntmps117
  go_wp2_with fail
  refine C.out.mono ?_
  rintro e w1 ⟨rfl, b1⟩
  clear C
  go_wp2_with fail
  go_ret
  exact ⟨ret_bool R.out, b1⟩
/-! ### Repeated -/
set_option maxHeartbeats 1000000 in
theorem krep1_any (t a b v tr : Int) (bk : Nat) (w : World) (h : w.cell? ⟨bk, 0, none⟩ = some (.int .i64 tr)) : Calls Tryz.prog 144 #[fqV t a b v, .pointer (some ⟨bk, 0, none⟩)] w fun e w' => e = .returned (.bool (decide (t = tr))) ∧ Below w.heap.size w w' := by
  obtain ⟨w7, hw7⟩ : ∃ W, w.alloc (boxF t a b v) = W := ⟨_, rfl⟩
  obtain ⟨b7, p0, p1, p2, p3, s7, c7⟩ := box_fq hw7
  have m0 := (b7.cell (p := ⟨bk, 0, none⟩) (World.block_lt_of_cell? _ _ h)).trans h
  have B7 := Lib.hid b7
  have R : (t == tr) = decide (t = tr) := by rw [Bool.eq_iff_iff, beq_iff_eq, decide_eq_true_iff]
  have HR := Lib.hid R
  clear b7 s7 c7 h R
  go_enter Tryz.func144, Tryz.ntmps144
  go_wp2_with fail
  go_ret
  exact ⟨ret_bool HR.out, B7.out⟩
set_option maxHeartbeats 1000000 in
theorem krep_any (vl : Value) (l : List Fq) (hl : l.length ≤ 1000) (tr : Int) (w : World) (h : LstF w vl l) : Calls Tryz.prog 121 #[vl, .int .i64 tr] w fun e w' => e = .returned (.bool (repF tr l)) ∧ Below w.heap.size w w' := by
  obtain ⟨w1, hw1⟩ : ∃ W, w.alloc (.cells #[.int .i64 tr] 3 (0, 0)) = W := ⟨_, rfl⟩
  have b1 : Below w.heap.size w w1 := by rw [← hw1]; exact (Below.refl _ _).alloc (Nat.le_refl _) _
  have c1 : w1.cell? ⟨w.heap.size, 0, none⟩ = some (.int .i64 tr) := by rw [← hw1, cell_of_row _ _ 0 _ _ _ (heap_alloc_new _ _)]; rfl
  have C := Lib.hid (kcont_any 144 (.pointer (some ⟨w.heap.size, 0, none⟩)) (fun f => decide (f.1 = tr)) (enter_of Tryz.func144 (by kernel_rfl) (by kernel_rfl)) vl l hl w1 (h.below b1)
    (fun k t a b v _ W hW => krep1_any t a b v tr w.heap.size W ((hW.cell (p := ⟨w.heap.size, 0, none⟩) (World.block_lt_of_cell? _ _ c1)).trans c1)))
  have B1 := Lib.hid b1
  clear b1 c1 h
  go_enter Tryz.func121, Tryz.ntmps121
  go_wp2_with fail
  refine C.out.mono ?_
  rintro e w2 ⟨rfl, b2⟩
  have B2 : Hid (Below w.heap.size w w2) := B1.out.trans (b2.mono B1.out.size)
  clear b2 C
  go_wp2_with fail
  go_ret
  exact ⟨rfl, B2.out⟩
end Go.Proofs.YtkhalnjgbdpfhaaGreat
