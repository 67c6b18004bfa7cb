/-
  Append of package checksum and of its reference: what each call answers; nothing that existed before has changed. Condition: at most 2^20 bytes.
-/
import Derived.Test.YtkadgmihaccogaaCUpd
import Derived.Laws.CopyOwn
namespace Go.Proofs.Ytkadgmihaccogaa
open Go.RowKit

/-- The four bytes, the highest first. -/
def b3 (c : Nat) : UInt8 := UInt8.ofNat (c / 16777216)
def b2 (c : Nat) : UInt8 := UInt8.ofNat (c / 65536)
def b1 (c : Nat) : UInt8 := UInt8.ofNat (c / 256)
def b0 (c : Nat) : UInt8 := UInt8.ofNat c
theorem be4_is (c : Nat) : be4 c = [b3 c, b2 c, b1 c, b0 c] := rfl
theorem wrap_b3 (c : Nat) : IntKind.u8.wrap ((c : Int) / 16777216) = ((b3 c).toNat : Int) := by
  unfold b3
  rw [IntKind.wrap_u8, UInt8.toNat_ofNat']
  omega
theorem wrap_b2 (c : Nat) : IntKind.u8.wrap ((c : Int) / 65536) = ((b2 c).toNat : Int) := by
  unfold b2
  rw [IntKind.wrap_u8, UInt8.toNat_ofNat']
  omega
theorem wrap_b1 (c : Nat) : IntKind.u8.wrap ((c : Int) / 256) = ((b1 c).toNat : Int) := by
  unfold b1
  rw [IntKind.wrap_u8, UInt8.toNat_ofNat']
  omega
theorem wrap_b0 (c : Nat) : IntKind.u8.wrap (c : Int) = ((b0 c).toNat : Int) := by
  unfold b0
  rw [IntKind.wrap_u8, UInt8.toNat_ofNat']
  omega
/-- What a call hands back: a slice of its own with these bytes. -/
abbrev GivesB (f : FuncId) (args : Array Value) (w : World) (l : List UInt8) : Prop :=
  Calls Try.prog f args w fun e w' => ∃ u, e = .returned u ∧ OwnB w' w.heap.size u l ∧ Below w.heap.size w w'

set_option maxHeartbeats 1000000 in
theorem rappend_any (v : Value) (l : List UInt8) (hl : l.length ≤ 1048576) (w : World) (h : LstB w v l) : GivesB 19 #[v] w (sealL l) := by
  have M := Lib.hid (rsum_any v l (by omega) w h)
  have H := Lib.hid h
  have R := Lib.hid (show sealL l = l ++ [b3 (crc l), b2 (crc l), b1 (crc l), b0 (crc l)] from rfl)
  generalize crc l = c at M R
  have e3 := wrap_b3 c
  have e2 := wrap_b2 c
  have e1 := wrap_b1 c
  have e0 := wrap_b0 c
  rw [R.out]
  generalize b3 c = x3 at e3 ⊢
  generalize b2 c = x2 at e2 ⊢
  generalize b1 c = x1 at e1 ⊢
  generalize b0 c = x0 at e0 ⊢
  clear h R
  go_enter Try.func19, Try.ntmps19
  go_wp2_with fail
  refine M.out.mono ?_
  rintro e w' ⟨rfl, rfl⟩
  go_wp2_with (first
    | (at_builtin; refine app_lstb _ rfl (.tmp 7) (.tmp 8) rfl w.heap.size _ [] l rfl (OwnB.nil _ _) _ rfl H.out (Nat.le_refl _) (by simp; omega) ?_; intro v1 w1 own1 b1; have O1 := Lib.hid own1; have B1 := Lib.hid b1; clear own1 b1)
    | (at_builtin; (refine app_bytes _ rfl (.tmp 10) (.tmp 22) rfl w.heap.size _ _ [x3, x2, x1, x0] rfl (World.ownsRow.alloc O1.out _) w1.heap.size _ (heap_alloc_new _ _) rfl rfl (by have := B1.out.size; simp; omega) (by simp; omega) ?_); intro v2 w2 own2 b2))
  go_ret
  exact ⟨_, rfl, own2, (B1.out.alloc B1.out.size _).trans b2⟩

/-- Zeros. -/
def zerosB (n : Nat) : List Value := List.replicate n (.int .u8 0)
theorem zeros_len (n : Nat) : (zerosB n).length = n := List.length_replicate
theorem mk_run (n : Nat) (hn : n ≤ 281474976710656) (e : Int) (he : e = n) (W : World) : (Instr.makeSlice 22 (.int .i64 e) (.int .i64 e)).run Try.prog W = .ok (.slice (some ⟨W.heap.size, 0, none⟩) n n) (W.alloc (.cells (zerosB n).toArray 5 (0, 0))) := by
  subst he
  obtain ⟨i, hi, hz, hsz, hby⟩ := info_parts info_u8
  have h := run_make (P := Try.prog) W 22 5 i _ Try.underlying22 hi hz .i64 .i64 n n (by omega) (by omega) (by rw [hby]; omega) (by omega)
  rw [h, hsz]
  have e2 : madeCells (Value.int .u8 0).cells (n * 1) = (zerosB n).toArray := by
    unfold madeCells zerosB Value.cells
    apply Array.ext_getElem?
    intro i
    by_cases hi : i < n
    · simp [hi, Nat.mod_one]
    · simp [hi]
  simp only [Int.toNat_natCast]
  rw [e2]
theorem splice_two {α : Type} (Z X Y : List α) (n : Nat) (hn : X.length = n) (h : Z.length = n + Y.length) : splice (splice Z 0 X) n Y = X ++ Y := by
  subst hn
  unfold splice
  simp only [List.take_zero, List.nil_append, Nat.zero_add]
  have e1 : (X ++ Z.drop X.length).take X.length = X := List.take_left
  have e2 : (X ++ Z.drop X.length).drop (X.length + Y.length) = [] := by
    apply List.drop_eq_nil_of_le
    rw [List.length_append, List.length_drop]
    omega
  rw [e1, e2, List.append_nil]
theorem info_size_u8 : (Try.prog.info? 5).map (·.size) = some 1 := by kernel_rfl
theorem arr_run (B : Nat) (W : World) : (Instr.sliceAt 46 (.pointer (some ⟨B, 0, none⟩)) none none none).run Try.prog W = .ok (.slice (some ⟨B, 0, none⟩) 4 4) W := by
  have he : Try.prog.elem 46 = 5 := by kernel_rfl
  have hl : Try.prog.arrayLen 46 = 4 := by kernel_rfl
  rw [run_sliceAt_array_all W 46 ⟨B, 0, none⟩ (by rw [he, hl]; exact Try.underlying46), hl, he]
  simp [slicedAt, Try.sizeOf5, Addr.add]
theorem cut_run (g n : Nat) (W : World) : (Instr.slice 22 (.slice (some ⟨g, 0, none⟩) (n + 4) (n + 4)) (some (.int .i64 (n : Int))) none none).run Try.prog W = .ok (.slice (some ⟨g, n, none⟩) 4 4) W := by
  rw [run_slice_l W 22 _ _ _ under_bts .i64 n (by omega) (by omega), elem_bts, size_u8]
  simp only [Result.andThen_ok, sliced, Int.toNat_natCast]
  rw [if_neg (by omega), show n + 4 - n = 4 by omega]
  simp [Addr.add]
  exact fun h => h.symm
/-- Fails at once where the next operation is no copy. -/
theorem at_copy {P : Program} {ops : Array Oper} {rest : List Oper} {d : Option Tmp} {x : Array Operand} {t : Array TypeId} {ty : TypeId} {pos : String} {after : Array Edge} {g : Option (Nat × Bool)} {a : Act} {w : World} {Q : Exit → Act → World → Prop}
    (h : wpList P ops Q (⟨d, .call ⟨.builtin .copy, x, t⟩, ty, pos, after, g⟩ :: rest) a w) : wpList P ops Q (⟨d, .call ⟨.builtin .copy, x, t⟩, ty, pos, after, g⟩ :: rest) a w := h
theorem at_copy_step {P : Program} {ops : Array Oper} {d : Option Tmp} {x : Array Operand} {t : Array TypeId} {ty : TypeId} {pos : String} {after : Array Edge} {g : Option (Nat × Bool)} {a : Act} {w : World} {K : Act → World → Prop} {Q : Exit → Act → World → Prop} {E : Prop}
    (h : if Region.wanted ⟨d, .call ⟨.builtin .copy, x, t⟩, ty, pos, after, g⟩ (yielded ops a.tmps) = true then Oper.wp P ⟨d, .call ⟨.builtin .copy, x, t⟩, ty, pos, after, g⟩ a w K Q else E) : if Region.wanted ⟨d, .call ⟨.builtin .copy, x, t⟩, ty, pos, after, g⟩ (yielded ops a.tmps) = true then Oper.wp P ⟨d, .call ⟨.builtin .copy, x, t⟩, ty, pos, after, g⟩ a w K Q else E := h
set_option maxHeartbeats 1000000 in
theorem append_any (v : Value) (l : List UInt8) (hl : l.length ≤ 1048576) (w : World) (h : LstB w v l) : GivesB 16 #[v] w (sealL l) := by
  have M := Lib.hid (crc_any v l (by omega) w h)
  have H := Lib.hid h
  have R := Lib.hid (show sealL l = l ++ [b3 (crc l), b2 (crc l), b1 (crc l), b0 (crc l)] from rfl)
  generalize crc l = c at M R
  have e3 := wrap_b3 c
  have e2 := wrap_b2 c
  have e1 := wrap_b1 c
  have e0 := wrap_b0 c
  rw [R.out]
  generalize b3 c = x3 at e3 ⊢
  generalize b2 c = x2 at e2 ⊢
  generalize b1 c = x1 at e1 ⊢
  generalize b0 c = x0 at e0 ⊢
  obtain ⟨A, cap, rfl, -, -, hx⟩ := h
  have HX := Lib.hid hx
  clear R hx
  go_enter Try.func16, Try.ntmps16
  go_wp2_with fail
  refine M.out.mono ?_
  rintro e w1 ⟨rfl, b1⟩
  obtain ⟨w2, hw2⟩ : ∃ x, w1.alloc (.cells #[.int .u8 x3.toNat, .int .u8 x2.toNat, .int .u8 x1.toNat, .int .u8 x0.toNat] 46 (0, 0)) = x := ⟨_, rfl⟩
  have m0 : w2.heap[w1.heap.size]? = some (.cells #[.int .u8 x3.toNat, .int .u8 x2.toNat, .int .u8 x1.toNat, .int .u8 x0.toNat] 46 (0, 0)) := by rw [← hw2]; exact heap_alloc_new _ _
  have b2 : Below w.heap.size w w2 := by rw [← hw2]; exact b1.alloc b1.size _
  have s2 : w2.heap.size = w1.heap.size + 1 := by rw [← hw2]; simp
  have M0 := Lib.hid m0
  have B2 := Lib.hid b2
  have S2 := Lib.hid s2
  have mk := mk_run (l.length + 4) (by omega) ((l.length : Int) + 4) (by omega)
  have cu := cut_run w2.heap.size l.length
  have ar := arr_run w1.heap.size
  have hP : 0 < (bts l).length → ∃ ad, A = some ad ∧ ∀ (j : Nat) u, (bts l)[j]? = some u → (w2.alloc (.cells (zerosB (l.length + 4)).toArray 5 (0, 0))).cell? (ad.add j) = some u := by
    intro h0
    rw [List.length_map] at h0
    obtain ⟨b, o, hA, hb, hc⟩ := HX.out h0
    refine ⟨_, hA, fun j u hu => ?_⟩
    have hz := B2.out.size
    rw [Addr.add_lit]
    exact (((B2.out.alloc hz _).cell (p := ⟨b, o + j, none⟩) hb)).trans (hc j u hu)
  have HP := Lib.hid hP
  clear m0 b2 s2 hP
  go_wp2_with (with_reducible refine at_copy ?_; refine wpList_copy_splice rfl (.tmp 24) (.tmp 25) 22 22 rfl 5 Try.underlying22 info_size_u8 _ _ _ _ _ _ rfl rfl w2.heap.size 0 (zerosB (l.length + 4)) 5 (heap_alloc_new _ _) (bts l) (by rw [List.length_map]; exact (Nat.min_eq_left (by omega)).symm) (fun h0 => ⟨rfl, HP.out h0⟩) (by rw [zeros_len, List.length_map]; omega) (bts_one l) w2.heap.size w2 ((Below.refl _ _).alloc (Nat.le_refl _) _) (Nat.le_refl _) ?_; intro w4 HG4 b4; have B4 := Lib.hid b4; clear b4)
  have hQ : ∀ (j : Nat) u, (bts [x3, x2, x1, x0])[j]? = some u → w4.drew.cell? ((⟨w1.heap.size, 0, none⟩ : Addr).add j) = some u := by
    intro j u hu
    rw [Addr.add_lit, Nat.zero_add]
    have hs := S2.out
    exact (B4.out.cell (p := ⟨w1.heap.size, j, none⟩) (by show w1.heap.size < w2.heap.size; omega)).trans ((cell_of_row _ _ j _ _ _ M0.out).trans (by rw [← hu, List.getElem?_toArray]; rfl))
  have HQ := Lib.hid hQ
  have HG : Hid (w4.drew.heap[w2.heap.size]? = some (.cells (splice (zerosB (l.length + 4)) 0 (bts l)).toArray 5 (0, 0))) := HG4.out
  have hF : l.length + (bts [x3, x2, x1, x0]).length ≤ (splice (zerosB (l.length + 4)) 0 (bts l)).length := by rw [length_splice _ _ _ (by rw [zeros_len, List.length_map]; omega), zeros_len]; exact Nat.le_refl _
  have HF := Lib.hid hF
  clear hF
  clear hQ
  go_region_law (with_reducible refine at_copy_step ?_; refine step_copy_splice rfl (.tmp 30) (.tmp 31) 22 22 rfl 5 Try.underlying22 info_size_u8 _ _ _ _ _ _ rfl rfl w2.heap.size l.length (splice (zerosB (l.length + 4)) 0 (bts l)) 5 HG.out (bts [x3, x2, x1, x0]) rfl (fun _ => ⟨rfl, _, rfl, HQ.out⟩) HF.out (bts_one _) w2.heap.size w2 B4.out.drew (Nat.le_refl _) ?_; intro w5 HG5 b5; have B5 := Lib.hid b5; clear b5)
  all_goals
    go_wp2_with fail
    go_ret
    refine ⟨_, rfl, ?_, ?_⟩
    · have hg := HG5.out
      rw [splice_two (zerosB (l.length + 4)) (bts l) (bts [x3, x2, x1, x0]) l.length (by rw [List.length_map]) (by rw [zeros_len]; rfl)] at hg
      refine ⟨by simp, Or.inr ⟨w2.heap.size, l.length + 4, _, by simp, B2.out.size, hg, by simp, by unfold maxLen; omega, by simp, ?_⟩⟩
      show (bts l ++ bts [x3, x2, x1, x0]).take _ = bts (l ++ [x3, x2, x1, x0])
      unfold bts
      rw [List.map_append]
      exact List.take_of_length_le (by simp)
    · exact B2.out.trans (B5.out.mono B2.out.size)
end Go.Proofs.Ytkadgmihaccogaa
