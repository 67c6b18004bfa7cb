/-
  The program's copies of lists: a row of the call's own with the same elements; nothing that existed before the call has changed behind it. Condition: at most 1000000 elements.
-/
import Derived.Test.YtkhalnjgbdpfhaaGreatTtX
import Derived.Test.YtkhalnjgbdpfhaaGreatCpG
namespace Go.Proofs.YtkhalnjgbdpfhaaGreat
open Go.RowKit

theorem cinfo_st : (Tryz.prog.info? 51).map (fun i => (i.zero, i.size, i.bytes)) = some (some (.agg #[.string ⟨#[]⟩, .int .i64 0, .bool false, .int .i64 0]), 4, 40) := by kernel_rfl
theorem csize_st : (Tryz.prog.info? 51).map (·.size) = some 4 := by kernel_rfl
set_option maxRecDepth 100000 in
set_option maxHeartbeats 1000000 in
theorem cpst_any (v : Value) (l : List S13.St) (hl : l.length ≤ 1000000) (w : World) (h : S13.LstS w v l) : GivesW S13.se 51 16 #[v] w l := by
  have one : Hid (∀ u ∈ fl S13.se l, u.oneCell' = true) := Lib.hid (one_fl (fun x _ u hu => by
    simp only [S13.se, List.mem_cons, List.not_mem_nil, or_false] at hu
    rcases hu with rfl | rfl | rfl | rfl <;> rfl))
  obtain ⟨A, c, rfl, -, -, hx⟩ := h
  have MK := mkG_run (enc := S13.se) (k := 4) S13.se_len (by decide) Tryz.underlying22 cinfo_st (([], 0, false, 0) : S13.St) rfl l.length (by omega) (by omega) (l.length : Int) rfl
  have LZ : (fl S13.se (List.replicate l.length (([], 0, false, 0) : S13.St))).length = l.length * 4 := by rw [fl_len S13.se_len, List.length_replicate]
  generalize fl S13.se (List.replicate l.length (([], 0, false, 0) : S13.St)) = Z at MK LZ
  have LX : (fl S13.se l).length = l.length * 4 := fl_len S13.se_len l
  obtain ⟨X, hX⟩ : ∃ X, fl S13.se l = X := ⟨_, rfl⟩
  unfold GivesW
  rw [hX] at one LX hx ⊢
  have HL : Hid (Z.length = l.length * 4 ∧ X.length = l.length * 4) := Lib.hid ⟨LZ, LX⟩
  obtain ⟨w2, hw2⟩ : ∃ x, w.alloc (.cells Z.toArray 51 (0, 0)) = x := ⟨_, rfl⟩
  have K2 : Hid (w2.heap[w.heap.size]? = some (.cells Z.toArray 51 (0, 0)) ∧ Below w.heap.size w w2) := by
    rw [← hw2]
    exact ⟨heap_alloc_new _ _, (Below.refl _ _).alloc (Nat.le_refl _) _⟩
  have S1 : Hid (0 < l.length → ∃ ad, A = some ad ∧ ∀ (j : Nat) u, X[j]? = some u → w2.cell? (ad.add j) = some u) := by
    intro h0
    obtain ⟨b, o, hA, hb, hc⟩ := hx h0
    refine ⟨_, hA, fun j u hu => ?_⟩
    rw [Addr.add_lit]
    exact (K2.out.2.cell (p := ⟨b, o + j, none⟩) hb).trans (hc j u hu)
  clear hx LZ LX hX
  go_enter Tryz.func16, Tryz.ntmps16
  go_wp2_with (with_reducible refine at_copyK ?_; refine wpList_copyK rfl (.tmp 7) (.tmp 8) 22 22 rfl 51 Tryz.underlying22 4 csize_st _ _ _ _ _ _ rfl rfl w.heap.size 0 Z 51 K2.out.1 X l.length (Nat.min_self _).symm HL.out.2 (fun h0 => ⟨rfl, S1.out h0⟩) (by rw [HL.out.1, HL.out.2]; omega) one.out w.heap.size w K2.out.2 (Nat.le_refl _) ?_; intro w4 HG4 b4; have B4 := Lib.hid b4; clear b4)
  go_ret
  exact ⟨_, rfl, Nat.le_refl _, by rw [← splice_all Z X (by rw [HL.out.1, HL.out.2])]; exact HG4.out, B4.out⟩
theorem cinfo_ro : (Tryz.prog.info? 63).map (fun i => (i.zero, i.size, i.bytes)) = some (some (.agg #[.string ⟨#[]⟩, .int .i64 0, .bool false]), 3, 32) := by kernel_rfl
theorem csize_ro : (Tryz.prog.info? 63).map (·.size) = some 3 := by kernel_rfl
set_option maxRecDepth 100000 in
set_option maxHeartbeats 1000000 in
theorem cpro_any (v : Value) (l : List Rt) (hl : l.length ≤ 1000000) (w : World) (h : S15.LstR w v l) : GivesW S15.re 63 17 #[v] w l := by
  have one : Hid (∀ u ∈ fl S15.re l, u.oneCell' = true) := Lib.hid (one_fl (fun x _ u hu => by
    simp only [S15.re, List.mem_cons, List.not_mem_nil, or_false] at hu
    rcases hu with rfl | rfl | rfl <;> rfl))
  obtain ⟨A, c, rfl, -, -, hx⟩ := h
  have MK := mkG_run (enc := S15.re) (k := 3) S15.re_len (by decide) Tryz.underlying23 cinfo_ro (([], 0, false) : Rt) rfl l.length (by omega) (by omega) (l.length : Int) rfl
  have LZ : (fl S15.re (List.replicate l.length (([], 0, false) : Rt))).length = l.length * 3 := by rw [fl_len S15.re_len, List.length_replicate]
  generalize fl S15.re (List.replicate l.length (([], 0, false) : Rt)) = Z at MK LZ
  have LX : (fl S15.re l).length = l.length * 3 := fl_len S15.re_len l
  obtain ⟨X, hX⟩ : ∃ X, fl S15.re l = X := ⟨_, rfl⟩
  unfold GivesW
  rw [hX] at one LX hx ⊢
  have HL : Hid (Z.length = l.length * 3 ∧ X.length = l.length * 3) := Lib.hid ⟨LZ, LX⟩
  obtain ⟨w2, hw2⟩ : ∃ x, w.alloc (.cells Z.toArray 63 (0, 0)) = x := ⟨_, rfl⟩
  have K2 : Hid (w2.heap[w.heap.size]? = some (.cells Z.toArray 63 (0, 0)) ∧ Below w.heap.size w w2) := by
    rw [← hw2]
    exact ⟨heap_alloc_new _ _, (Below.refl _ _).alloc (Nat.le_refl _) _⟩
  have S1 : Hid (0 < l.length → ∃ ad, A = some ad ∧ ∀ (j : Nat) u, X[j]? = some u → w2.cell? (ad.add j) = some u) := by
    intro h0
    obtain ⟨b, o, hA, hb, hc⟩ := hx h0
    refine ⟨_, hA, fun j u hu => ?_⟩
    rw [Addr.add_lit]
    exact (K2.out.2.cell (p := ⟨b, o + j, none⟩) hb).trans (hc j u hu)
  clear hx LZ LX hX
  go_enter Tryz.func17, Tryz.ntmps17
  go_wp2_with (with_reducible refine at_copyK ?_; refine wpList_copyK rfl (.tmp 7) (.tmp 8) 23 23 rfl 63 Tryz.underlying23 3 csize_ro _ _ _ _ _ _ rfl rfl w.heap.size 0 Z 63 K2.out.1 X l.length (Nat.min_self _).symm HL.out.2 (fun h0 => ⟨rfl, S1.out h0⟩) (by rw [HL.out.1, HL.out.2]; omega) one.out w.heap.size w K2.out.2 (Nat.le_refl _) ?_; intro w4 HG4 b4; have B4 := Lib.hid b4; clear b4)
  go_ret
  exact ⟨_, rfl, Nat.le_refl _, by rw [← splice_all Z X (by rw [HL.out.1, HL.out.2])]; exact HG4.out, B4.out⟩
theorem cinfo_ca : (Tryz.prog.info? 67).map (fun i => (i.zero, i.size, i.bytes)) = some (some (.agg #[.string ⟨#[]⟩, .bool false, .bool false, .bool false, .bool false, .bool false, .bool false, .bool false, .int .i64 0, .int .i64 0]), 10, 40) := by kernel_rfl
theorem csize_ca : (Tryz.prog.info? 67).map (·.size) = some 10 := by kernel_rfl
set_option maxRecDepth 100000 in
set_option maxHeartbeats 1000000 in
theorem cpca_any (v : Value) (l : List S14.Cl) (hl : l.length ≤ 1000000) (w : World) (h : S14.LstC w v l) : GivesW S14.ce 67 18 #[v] w l := by
  have one : Hid (∀ u ∈ fl S14.ce l, u.oneCell' = true) := Lib.hid (one_fl (fun x _ u hu => by
    simp only [S14.ce, List.mem_cons, List.not_mem_nil, or_false] at hu
    rcases hu with rfl | rfl | rfl | rfl | rfl | rfl | rfl | rfl | rfl | rfl <;> rfl))
  obtain ⟨A, c, rfl, -, -, hx⟩ := h
  have MK := mkG_run (enc := S14.ce) (k := 10) S14.ce_len (by decide) Tryz.underlying24 cinfo_ca (([], fun _ => false, 0, 0) : S14.Cl) rfl l.length (by omega) (by omega) (l.length : Int) rfl
  have LZ : (fl S14.ce (List.replicate l.length (([], fun _ => false, 0, 0) : S14.Cl))).length = l.length * 10 := by rw [fl_len S14.ce_len, List.length_replicate]
  generalize fl S14.ce (List.replicate l.length (([], fun _ => false, 0, 0) : S14.Cl)) = Z at MK LZ
  have LX : (fl S14.ce l).length = l.length * 10 := fl_len S14.ce_len l
  obtain ⟨X, hX⟩ : ∃ X, fl S14.ce l = X := ⟨_, rfl⟩
  unfold GivesW
  rw [hX] at one LX hx ⊢
  have HL : Hid (Z.length = l.length * 10 ∧ X.length = l.length * 10) := Lib.hid ⟨LZ, LX⟩
  obtain ⟨w2, hw2⟩ : ∃ x, w.alloc (.cells Z.toArray 67 (0, 0)) = x := ⟨_, rfl⟩
  have K2 : Hid (w2.heap[w.heap.size]? = some (.cells Z.toArray 67 (0, 0)) ∧ Below w.heap.size w w2) := by
    rw [← hw2]
    exact ⟨heap_alloc_new _ _, (Below.refl _ _).alloc (Nat.le_refl _) _⟩
  have S1 : Hid (0 < l.length → ∃ ad, A = some ad ∧ ∀ (j : Nat) u, X[j]? = some u → w2.cell? (ad.add j) = some u) := by
    intro h0
    obtain ⟨b, o, hA, hb, hc⟩ := hx h0
    refine ⟨_, hA, fun j u hu => ?_⟩
    rw [Addr.add_lit]
    exact (K2.out.2.cell (p := ⟨b, o + j, none⟩) hb).trans (hc j u hu)
  clear hx LZ LX hX
  go_enter Tryz.func18, Tryz.ntmps18
  go_wp2_with (with_reducible refine at_copyK ?_; refine wpList_copyK rfl (.tmp 7) (.tmp 8) 24 24 rfl 67 Tryz.underlying24 10 csize_ca _ _ _ _ _ _ rfl rfl w.heap.size 0 Z 67 K2.out.1 X l.length (Nat.min_self _).symm HL.out.2 (fun h0 => ⟨rfl, S1.out h0⟩) (by rw [HL.out.1, HL.out.2]; omega) one.out w.heap.size w K2.out.2 (Nat.le_refl _) ?_; intro w4 HG4 b4; have B4 := Lib.hid b4; clear b4)
  go_ret
  exact ⟨_, rfl, Nat.le_refl _, by rw [← splice_all Z X (by rw [HL.out.1, HL.out.2])]; exact HG4.out, B4.out⟩
theorem cinfo_ex : (Tryz.prog.info? 70).map (fun i => (i.zero, i.size, i.bytes)) = some (some (.agg #[.int .i64 0, .int .i64 0, .bool false]), 3, 24) := by kernel_rfl
theorem csize_ex : (Tryz.prog.info? 70).map (·.size) = some 3 := by kernel_rfl
set_option maxRecDepth 100000 in
set_option maxHeartbeats 1000000 in
theorem cpex_any (v : Value) (l : List S14.Ex) (hl : l.length ≤ 1000000) (w : World) (h : S14.LstX w v l) : GivesW S14.xe 70 19 #[v] w l := by
  have one : Hid (∀ u ∈ fl S14.xe l, u.oneCell' = true) := Lib.hid (one_fl (fun x _ u hu => by
    simp only [S14.xe, List.mem_cons, List.not_mem_nil, or_false] at hu
    rcases hu with rfl | rfl | rfl <;> rfl))
  obtain ⟨A, c, rfl, -, -, hx⟩ := h
  have MK := mkG_run (enc := S14.xe) (k := 3) S14.xe_len (by decide) Tryz.underlying25 cinfo_ex ((0, 0, false) : S14.Ex) rfl l.length (by omega) (by omega) (l.length : Int) rfl
  have LZ : (fl S14.xe (List.replicate l.length ((0, 0, false) : S14.Ex))).length = l.length * 3 := by rw [fl_len S14.xe_len, List.length_replicate]
  generalize fl S14.xe (List.replicate l.length ((0, 0, false) : S14.Ex)) = Z at MK LZ
  have LX : (fl S14.xe l).length = l.length * 3 := fl_len S14.xe_len l
  obtain ⟨X, hX⟩ : ∃ X, fl S14.xe l = X := ⟨_, rfl⟩
  unfold GivesW
  rw [hX] at one LX hx ⊢
  have HL : Hid (Z.length = l.length * 3 ∧ X.length = l.length * 3) := Lib.hid ⟨LZ, LX⟩
  obtain ⟨w2, hw2⟩ : ∃ x, w.alloc (.cells Z.toArray 70 (0, 0)) = x := ⟨_, rfl⟩
  have K2 : Hid (w2.heap[w.heap.size]? = some (.cells Z.toArray 70 (0, 0)) ∧ Below w.heap.size w w2) := by
    rw [← hw2]
    exact ⟨heap_alloc_new _ _, (Below.refl _ _).alloc (Nat.le_refl _) _⟩
  have S1 : Hid (0 < l.length → ∃ ad, A = some ad ∧ ∀ (j : Nat) u, X[j]? = some u → w2.cell? (ad.add j) = some u) := by
    intro h0
    obtain ⟨b, o, hA, hb, hc⟩ := hx h0
    refine ⟨_, hA, fun j u hu => ?_⟩
    rw [Addr.add_lit]
    exact (K2.out.2.cell (p := ⟨b, o + j, none⟩) hb).trans (hc j u hu)
  clear hx LZ LX hX
  go_enter Tryz.func19, Tryz.ntmps19
  go_wp2_with (with_reducible refine at_copyK ?_; refine wpList_copyK rfl (.tmp 7) (.tmp 8) 25 25 rfl 70 Tryz.underlying25 3 csize_ex _ _ _ _ _ _ rfl rfl w.heap.size 0 Z 70 K2.out.1 X l.length (Nat.min_self _).symm HL.out.2 (fun h0 => ⟨rfl, S1.out h0⟩) (by rw [HL.out.1, HL.out.2]; omega) one.out w.heap.size w K2.out.2 (Nat.le_refl _) ?_; intro w4 HG4 b4; have B4 := Lib.hid b4; clear b4)
  go_ret
  exact ⟨_, rfl, Nat.le_refl _, by rw [← splice_all Z X (by rw [HL.out.1, HL.out.2])]; exact HG4.out, B4.out⟩
theorem cinfo_tr : (Tryz.prog.info? 49).map (fun i => (i.zero, i.size, i.bytes)) = some (some (.agg #[.string ⟨#[]⟩, .int .i64 0, .int .i64 0, .bool false, .slice none 0 0]), 5, 64) := by kernel_rfl
theorem csize_tr : (Tryz.prog.info? 49).map (·.size) = some 5 := by kernel_rfl
set_option maxRecDepth 100000 in
set_option maxHeartbeats 1000000 in
theorem cptr_any (v : Value) (l : List Tp) (hl : l.length ≤ 1000000) (w : World) (h : LstTp w v l) : GivesW te 49 20 #[v] w l := by
  have one : Hid (∀ u ∈ fl te l, u.oneCell' = true) := Lib.hid (one_fl (fun x hx u hu => by
    obtain ⟨hc, -, -⟩ := h.2 x hx
    obtain ⟨A, c, e, -⟩ := hc
    simp only [te, List.mem_cons, List.not_mem_nil, or_false] at hu
    rcases hu with rfl | rfl | rfl | rfl | rfl
    · rfl
    · rfl
    · rfl
    · rfl
    · rw [e]; rfl))
  obtain ⟨⟨A, c, rfl, -, -, hx⟩, -⟩ := h
  have MK := mkG_run (enc := te) (k := 5) te_len (by decide) Tryz.underlying26 cinfo_tr (([], 0, 0, false, .slice none 0 0, []) : Tp) rfl l.length (by omega) (by omega) (l.length : Int) rfl
  have LZ : (fl te (List.replicate l.length (([], 0, 0, false, .slice none 0 0, []) : Tp))).length = l.length * 5 := by rw [fl_len te_len, List.length_replicate]
  generalize fl te (List.replicate l.length (([], 0, 0, false, .slice none 0 0, []) : Tp)) = Z at MK LZ
  have LX : (fl te l).length = l.length * 5 := fl_len te_len l
  obtain ⟨X, hX⟩ : ∃ X, fl te l = X := ⟨_, rfl⟩
  unfold GivesW
  rw [hX] at one LX hx ⊢
  have HL : Hid (Z.length = l.length * 5 ∧ X.length = l.length * 5) := Lib.hid ⟨LZ, LX⟩
  obtain ⟨w2, hw2⟩ : ∃ x, w.alloc (.cells Z.toArray 49 (0, 0)) = x := ⟨_, rfl⟩
  have K2 : Hid (w2.heap[w.heap.size]? = some (.cells Z.toArray 49 (0, 0)) ∧ Below w.heap.size w w2) := by
    rw [← hw2]
    exact ⟨heap_alloc_new _ _, (Below.refl _ _).alloc (Nat.le_refl _) _⟩
  have S1 : Hid (0 < l.length → ∃ ad, A = some ad ∧ ∀ (j : Nat) u, X[j]? = some u → w2.cell? (ad.add j) = some u) := by
    intro h0
    obtain ⟨b, o, hA, hb, hc⟩ := hx h0
    refine ⟨_, hA, fun j u hu => ?_⟩
    rw [Addr.add_lit]
    exact (K2.out.2.cell (p := ⟨b, o + j, none⟩) hb).trans (hc j u hu)
  clear hx LZ LX hX
  go_enter Tryz.func20, Tryz.ntmps20
  go_wp2_with (with_reducible refine at_copyK ?_; refine wpList_copyK rfl (.tmp 7) (.tmp 8) 26 26 rfl 49 Tryz.underlying26 5 csize_tr _ _ _ _ _ _ rfl rfl w.heap.size 0 Z 49 K2.out.1 X l.length (Nat.min_self _).symm HL.out.2 (fun h0 => ⟨rfl, S1.out h0⟩) (by rw [HL.out.1, HL.out.2]; omega) one.out w.heap.size w K2.out.2 (Nat.le_refl _) ?_; intro w4 HG4 b4; have B4 := Lib.hid b4; clear b4)
  go_ret
  exact ⟨_, rfl, Nat.le_refl _, by rw [← splice_all Z X (by rw [HL.out.1, HL.out.2])]; exact HG4.out, B4.out⟩
theorem cinfo_cc : (Tryz.prog.info? 74).map (fun i => (i.zero, i.size, i.bytes)) = some (some (.agg #[.int .i64 0, .int .i64 0, .int .i64 0, .bool false, .bool false]), 5, 32) := by kernel_rfl
theorem csize_cc : (Tryz.prog.info? 74).map (·.size) = some 5 := by kernel_rfl
set_option maxRecDepth 100000 in
set_option maxHeartbeats 1000000 in
theorem cpcc_any (v : Value) (l : List Cl) (hl : l.length ≤ 1000000) (w : World) (h : LstC w v l) : GivesW cc 74 21 #[v] w l := by
  have one : Hid (∀ u ∈ fl cc l, u.oneCell' = true) := Lib.hid (one_fl (fun x _ u hu => by
    simp only [cc, List.mem_cons, List.not_mem_nil, or_false] at hu
    rcases hu with rfl | rfl | rfl | rfl | rfl <;> rfl))
  obtain ⟨A, c, rfl, -, -, hx⟩ := h
  have MK := mkG_run (enc := cc) (k := 5) cc_len (by decide) Tryz.underlying47 cinfo_cc ((0, 0, 0, false, false) : Cl) rfl l.length (by omega) (by omega) (l.length : Int) rfl
  have LZ : (fl cc (List.replicate l.length ((0, 0, 0, false, false) : Cl))).length = l.length * 5 := by rw [fl_len cc_len, List.length_replicate]
  generalize fl cc (List.replicate l.length ((0, 0, 0, false, false) : Cl)) = Z at MK LZ
  have LX : (fl cc l).length = l.length * 5 := fl_len cc_len l
  obtain ⟨X, hX⟩ : ∃ X, fl cc l = X := ⟨_, rfl⟩
  unfold GivesW
  rw [hX] at one LX hx ⊢
  have HL : Hid (Z.length = l.length * 5 ∧ X.length = l.length * 5) := Lib.hid ⟨LZ, LX⟩
  obtain ⟨w2, hw2⟩ : ∃ x, w.alloc (.cells Z.toArray 74 (0, 0)) = x := ⟨_, rfl⟩
  have K2 : Hid (w2.heap[w.heap.size]? = some (.cells Z.toArray 74 (0, 0)) ∧ Below w.heap.size w w2) := by
    rw [← hw2]
    exact ⟨heap_alloc_new _ _, (Below.refl _ _).alloc (Nat.le_refl _) _⟩
  have S1 : Hid (0 < l.length → ∃ ad, A = some ad ∧ ∀ (j : Nat) u, X[j]? = some u → w2.cell? (ad.add j) = some u) := by
    intro h0
    obtain ⟨b, o, hA, hb, hc⟩ := hx h0
    refine ⟨_, hA, fun j u hu => ?_⟩
    rw [Addr.add_lit]
    exact (K2.out.2.cell (p := ⟨b, o + j, none⟩) hb).trans (hc j u hu)
  clear hx LZ LX hX
  go_enter Tryz.func21, Tryz.ntmps21
  go_wp2_with (with_reducible refine at_copyK ?_; refine wpList_copyK rfl (.tmp 7) (.tmp 8) 47 47 rfl 74 Tryz.underlying47 5 csize_cc _ _ _ _ _ _ rfl rfl w.heap.size 0 Z 74 K2.out.1 X l.length (Nat.min_self _).symm HL.out.2 (fun h0 => ⟨rfl, S1.out h0⟩) (by rw [HL.out.1, HL.out.2]; omega) one.out w.heap.size w K2.out.2 (Nat.le_refl _) ?_; intro w4 HG4 b4; have B4 := Lib.hid b4; clear b4)
  go_ret
  exact ⟨_, rfl, Nat.le_refl _, by rw [← splice_all Z X (by rw [HL.out.1, HL.out.2])]; exact HG4.out, B4.out⟩
theorem cinfo_fr : (Tryz.prog.info? 77).map (fun i => (i.zero, i.size, i.bytes)) = some (some (.agg #[.int .i64 0, .int .i64 0, .int .i64 0, .int .i64 0]), 4, 32) := by kernel_rfl
theorem csize_fr : (Tryz.prog.info? 77).map (·.size) = some 4 := by kernel_rfl
set_option maxRecDepth 100000 in
set_option maxHeartbeats 1000000 in
theorem cpfr_any (v : Value) (l : List Fq) (hl : l.length ≤ 1000000) (w : World) (h : LstF w v l) : GivesW fe 77 22 #[v] w l := by
  have one : Hid (∀ u ∈ fl fe l, u.oneCell' = true) := Lib.hid (one_fl (fun x _ u hu => by
    simp only [fe, List.mem_cons, List.not_mem_nil, or_false] at hu
    rcases hu with rfl | rfl | rfl | rfl <;> rfl))
  obtain ⟨A, c, rfl, -, -, hx⟩ := h
  have MK := mkG_run (enc := fe) (k := 4) fe_len (by decide) Tryz.underlying27 cinfo_fr ((0, 0, 0, 0) : Fq) rfl l.length (by omega) (by omega) (l.length : Int) rfl
  have LZ : (fl fe (List.replicate l.length ((0, 0, 0, 0) : Fq))).length = l.length * 4 := by rw [fl_len fe_len, List.length_replicate]
  generalize fl fe (List.replicate l.length ((0, 0, 0, 0) : Fq)) = Z at MK LZ
  have LX : (fl fe l).length = l.length * 4 := fl_len fe_len l
  obtain ⟨X, hX⟩ : ∃ X, fl fe l = X := ⟨_, rfl⟩
  unfold GivesW
  rw [hX] at one LX hx ⊢
  have HL : Hid (Z.length = l.length * 4 ∧ X.length = l.length * 4) := Lib.hid ⟨LZ, LX⟩
  obtain ⟨w2, hw2⟩ : ∃ x, w.alloc (.cells Z.toArray 77 (0, 0)) = x := ⟨_, rfl⟩
  have K2 : Hid (w2.heap[w.heap.size]? = some (.cells Z.toArray 77 (0, 0)) ∧ Below w.heap.size w w2) := by
    rw [← hw2]
    exact ⟨heap_alloc_new _ _, (Below.refl _ _).alloc (Nat.le_refl _) _⟩
  have S1 : Hid (0 < l.length → ∃ ad, A = some ad ∧ ∀ (j : Nat) u, X[j]? = some u → w2.cell? (ad.add j) = some u) := by
    intro h0
    obtain ⟨b, o, hA, hb, hc⟩ := hx h0
    refine ⟨_, hA, fun j u hu => ?_⟩
    rw [Addr.add_lit]
    exact (K2.out.2.cell (p := ⟨b, o + j, none⟩) hb).trans (hc j u hu)
  clear hx LZ LX hX
  go_enter Tryz.func22, Tryz.ntmps22
  go_wp2_with (with_reducible refine at_copyK ?_; refine wpList_copyK rfl (.tmp 7) (.tmp 8) 27 27 rfl 77 Tryz.underlying27 4 csize_fr _ _ _ _ _ _ rfl rfl w.heap.size 0 Z 77 K2.out.1 X l.length (Nat.min_self _).symm HL.out.2 (fun h0 => ⟨rfl, S1.out h0⟩) (by rw [HL.out.1, HL.out.2]; omega) one.out w.heap.size w K2.out.2 (Nat.le_refl _) ?_; intro w4 HG4 b4; have B4 := Lib.hid b4; clear b4)
  go_ret
  exact ⟨_, rfl, Nat.le_refl _, by rw [← splice_all Z X (by rw [HL.out.1, HL.out.2])]; exact HG4.out, B4.out⟩
theorem cinfo_th : (Tryz.prog.info? 80).map (fun i => (i.zero, i.size, i.bytes)) = some (some (.agg #[.int .i64 0, .int .i64 0]), 2, 16) := by kernel_rfl
theorem csize_th : (Tryz.prog.info? 80).map (·.size) = some 2 := by kernel_rfl
set_option maxRecDepth 100000 in
set_option maxHeartbeats 1000000 in
theorem cpth_any (v : Value) (l : List S19.Th) (hl : l.length ≤ 1000000) (w : World) (h : S19.LstH w v l) : GivesW S19.hh 80 23 #[v] w l := by
  have one : Hid (∀ u ∈ fl S19.hh l, u.oneCell' = true) := Lib.hid (one_fl (fun x _ u hu => by
    simp only [S19.hh, List.mem_cons, List.not_mem_nil, or_false] at hu
    rcases hu with rfl | rfl <;> rfl))
  obtain ⟨A, c, rfl, -, -, hx⟩ := h
  have MK := mkG_run (enc := S19.hh) (k := 2) S19.hh_len (by decide) Tryz.underlying28 cinfo_th ((0, 0) : S19.Th) rfl l.length (by omega) (by omega) (l.length : Int) rfl
  have LZ : (fl S19.hh (List.replicate l.length ((0, 0) : S19.Th))).length = l.length * 2 := by rw [fl_len S19.hh_len, List.length_replicate]
  generalize fl S19.hh (List.replicate l.length ((0, 0) : S19.Th)) = Z at MK LZ
  have LX : (fl S19.hh l).length = l.length * 2 := fl_len S19.hh_len l
  obtain ⟨X, hX⟩ : ∃ X, fl S19.hh l = X := ⟨_, rfl⟩
  unfold GivesW
  rw [hX] at one LX hx ⊢
  have HL : Hid (Z.length = l.length * 2 ∧ X.length = l.length * 2) := Lib.hid ⟨LZ, LX⟩
  obtain ⟨w2, hw2⟩ : ∃ x, w.alloc (.cells Z.toArray 80 (0, 0)) = x := ⟨_, rfl⟩
  have K2 : Hid (w2.heap[w.heap.size]? = some (.cells Z.toArray 80 (0, 0)) ∧ Below w.heap.size w w2) := by
    rw [← hw2]
    exact ⟨heap_alloc_new _ _, (Below.refl _ _).alloc (Nat.le_refl _) _⟩
  have S1 : Hid (0 < l.length → ∃ ad, A = some ad ∧ ∀ (j : Nat) u, X[j]? = some u → w2.cell? (ad.add j) = some u) := by
    intro h0
    obtain ⟨b, o, hA, hb, hc⟩ := hx h0
    refine ⟨_, hA, fun j u hu => ?_⟩
    rw [Addr.add_lit]
    exact (K2.out.2.cell (p := ⟨b, o + j, none⟩) hb).trans (hc j u hu)
  clear hx LZ LX hX
  go_enter Tryz.func23, Tryz.ntmps23
  go_wp2_with (with_reducible refine at_copyK ?_; refine wpList_copyK rfl (.tmp 7) (.tmp 8) 28 28 rfl 80 Tryz.underlying28 2 csize_th _ _ _ _ _ _ rfl rfl w.heap.size 0 Z 80 K2.out.1 X l.length (Nat.min_self _).symm HL.out.2 (fun h0 => ⟨rfl, S1.out h0⟩) (by rw [HL.out.1, HL.out.2]; omega) one.out w.heap.size w K2.out.2 (Nat.le_refl _) ?_; intro w4 HG4 b4; have B4 := Lib.hid b4; clear b4)
  go_ret
  exact ⟨_, rfl, Nat.le_refl _, by rw [← splice_all Z X (by rw [HL.out.1, HL.out.2])]; exact HG4.out, B4.out⟩
theorem cinfo_gu : (Tryz.prog.info? 83).map (fun i => (i.zero, i.size, i.bytes)) = some (some (.agg #[.int .i64 0, .int .i64 0, .int .i64 0]), 3, 24) := by kernel_rfl
theorem csize_gu : (Tryz.prog.info? 83).map (·.size) = some 3 := by kernel_rfl
set_option maxRecDepth 100000 in
set_option maxHeartbeats 1000000 in
theorem cpgu_any (v : Value) (l : List S19.Gt) (hl : l.length ≤ 1000000) (w : World) (h : S19.LstU w v l) : GivesW S19.gg 83 24 #[v] w l := by
  have one : Hid (∀ u ∈ fl S19.gg l, u.oneCell' = true) := Lib.hid (one_fl (fun x _ u hu => by
    simp only [S19.gg, List.mem_cons, List.not_mem_nil, or_false] at hu
    rcases hu with rfl | rfl | rfl <;> rfl))
  obtain ⟨A, c, rfl, -, -, hx⟩ := h
  have MK := mkG_run (enc := S19.gg) (k := 3) S19.gg_len (by decide) Tryz.underlying29 cinfo_gu ((0, 0, 0) : S19.Gt) rfl l.length (by omega) (by omega) (l.length : Int) rfl
  have LZ : (fl S19.gg (List.replicate l.length ((0, 0, 0) : S19.Gt))).length = l.length * 3 := by rw [fl_len S19.gg_len, List.length_replicate]
  generalize fl S19.gg (List.replicate l.length ((0, 0, 0) : S19.Gt)) = Z at MK LZ
  have LX : (fl S19.gg l).length = l.length * 3 := fl_len S19.gg_len l
  obtain ⟨X, hX⟩ : ∃ X, fl S19.gg l = X := ⟨_, rfl⟩
  unfold GivesW
  rw [hX] at one LX hx ⊢
  have HL : Hid (Z.length = l.length * 3 ∧ X.length = l.length * 3) := Lib.hid ⟨LZ, LX⟩
  obtain ⟨w2, hw2⟩ : ∃ x, w.alloc (.cells Z.toArray 83 (0, 0)) = x := ⟨_, rfl⟩
  have K2 : Hid (w2.heap[w.heap.size]? = some (.cells Z.toArray 83 (0, 0)) ∧ Below w.heap.size w w2) := by
    rw [← hw2]
    exact ⟨heap_alloc_new _ _, (Below.refl _ _).alloc (Nat.le_refl _) _⟩
  have S1 : Hid (0 < l.length → ∃ ad, A = some ad ∧ ∀ (j : Nat) u, X[j]? = some u → w2.cell? (ad.add j) = some u) := by
    intro h0
    obtain ⟨b, o, hA, hb, hc⟩ := hx h0
    refine ⟨_, hA, fun j u hu => ?_⟩
    rw [Addr.add_lit]
    exact (K2.out.2.cell (p := ⟨b, o + j, none⟩) hb).trans (hc j u hu)
  clear hx LZ LX hX
  go_enter Tryz.func24, Tryz.ntmps24
  go_wp2_with (with_reducible refine at_copyK ?_; refine wpList_copyK rfl (.tmp 7) (.tmp 8) 29 29 rfl 83 Tryz.underlying29 3 csize_gu _ _ _ _ _ _ rfl rfl w.heap.size 0 Z 83 K2.out.1 X l.length (Nat.min_self _).symm HL.out.2 (fun h0 => ⟨rfl, S1.out h0⟩) (by rw [HL.out.1, HL.out.2]; omega) one.out w.heap.size w K2.out.2 (Nat.le_refl _) ?_; intro w4 HG4 b4; have B4 := Lib.hid b4; clear b4)
  go_ret
  exact ⟨_, rfl, Nat.le_refl _, by rw [← splice_all Z X (by rw [HL.out.1, HL.out.2])]; exact HG4.out, B4.out⟩
theorem cinfo_pa : (Tryz.prog.info? 53).map (fun i => (i.zero, i.size, i.bytes)) = some (some (.agg #[.int .i64 0, .int .i64 0, .int .i64 0, .bool false]), 4, 32) := by kernel_rfl
theorem csize_pa : (Tryz.prog.info? 53).map (·.size) = some 4 := by kernel_rfl
set_option maxRecDepth 100000 in
set_option maxHeartbeats 1000000 in
theorem cppa_any (v : Value) (l : List S20.Fp) (hl : l.length ≤ 1000000) (w : World) (h : S20.LstF w v l) : GivesW S20.fe 53 25 #[v] w l := by
  have one : Hid (∀ u ∈ fl S20.fe l, u.oneCell' = true) := Lib.hid (one_fl (fun x _ u hu => by
    simp only [S20.fe, List.mem_cons, List.not_mem_nil, or_false] at hu
    rcases hu with rfl | rfl | rfl | rfl <;> rfl))
  obtain ⟨A, c, rfl, -, -, hx⟩ := h
  have MK := mkG_run (enc := S20.fe) (k := 4) S20.fe_len (by decide) Tryz.underlying30 cinfo_pa ((0, 0, 0, false) : S20.Fp) rfl l.length (by omega) (by omega) (l.length : Int) rfl
  have LZ : (fl S20.fe (List.replicate l.length ((0, 0, 0, false) : S20.Fp))).length = l.length * 4 := by rw [fl_len S20.fe_len, List.length_replicate]
  generalize fl S20.fe (List.replicate l.length ((0, 0, 0, false) : S20.Fp)) = Z at MK LZ
  have LX : (fl S20.fe l).length = l.length * 4 := fl_len S20.fe_len l
  obtain ⟨X, hX⟩ : ∃ X, fl S20.fe l = X := ⟨_, rfl⟩
  unfold GivesW
  rw [hX] at one LX hx ⊢
  have HL : Hid (Z.length = l.length * 4 ∧ X.length = l.length * 4) := Lib.hid ⟨LZ, LX⟩
  obtain ⟨w2, hw2⟩ : ∃ x, w.alloc (.cells Z.toArray 53 (0, 0)) = x := ⟨_, rfl⟩
  have K2 : Hid (w2.heap[w.heap.size]? = some (.cells Z.toArray 53 (0, 0)) ∧ Below w.heap.size w w2) := by
    rw [← hw2]
    exact ⟨heap_alloc_new _ _, (Below.refl _ _).alloc (Nat.le_refl _) _⟩
  have S1 : Hid (0 < l.length → ∃ ad, A = some ad ∧ ∀ (j : Nat) u, X[j]? = some u → w2.cell? (ad.add j) = some u) := by
    intro h0
    obtain ⟨b, o, hA, hb, hc⟩ := hx h0
    refine ⟨_, hA, fun j u hu => ?_⟩
    rw [Addr.add_lit]
    exact (K2.out.2.cell (p := ⟨b, o + j, none⟩) hb).trans (hc j u hu)
  clear hx LZ LX hX
  go_enter Tryz.func25, Tryz.ntmps25
  go_wp2_with (with_reducible refine at_copyK ?_; refine wpList_copyK rfl (.tmp 7) (.tmp 8) 30 30 rfl 53 Tryz.underlying30 4 csize_pa _ _ _ _ _ _ rfl rfl w.heap.size 0 Z 53 K2.out.1 X l.length (Nat.min_self _).symm HL.out.2 (fun h0 => ⟨rfl, S1.out h0⟩) (by rw [HL.out.1, HL.out.2]; omega) one.out w.heap.size w K2.out.2 (Nat.le_refl _) ?_; intro w4 HG4 b4; have B4 := Lib.hid b4; clear b4)
  go_ret
  exact ⟨_, rfl, Nat.le_refl _, by rw [← splice_all Z X (by rw [HL.out.1, HL.out.2])]; exact HG4.out, B4.out⟩
theorem cinfo_pr : (Tryz.prog.info? 87).map (fun i => (i.zero, i.size, i.bytes)) = some (some (.agg #[.string ⟨#[]⟩, .int .i64 0, .int .i64 0, .int .i64 0, .int .i64 0, .int .i64 0]), 6, 56) := by kernel_rfl
theorem csize_pr : (Tryz.prog.info? 87).map (·.size) = some 6 := by kernel_rfl
set_option maxRecDepth 100000 in
set_option maxHeartbeats 1000000 in
theorem cppr_any (v : Value) (l : List S21.Pd) (hl : l.length ≤ 1000000) (w : World) (h : S21.LstPd w v l) : GivesW S21.pdE 87 26 #[v] w l := by
  have one : Hid (∀ u ∈ fl S21.pdE l, u.oneCell' = true) := Lib.hid (one_fl (fun x _ u hu => by
    simp only [S21.pdE, List.mem_cons, List.not_mem_nil, or_false] at hu
    rcases hu with rfl | rfl | rfl | rfl | rfl | rfl <;> rfl))
  obtain ⟨A, c, rfl, -, -, hx⟩ := h
  have MK := mkG_run (enc := S21.pdE) (k := 6) S21.pdE_len (by decide) Tryz.underlying31 cinfo_pr (([], 0, 0, 0, 0, 0) : S21.Pd) rfl l.length (by omega) (by omega) (l.length : Int) rfl
  have LZ : (fl S21.pdE (List.replicate l.length (([], 0, 0, 0, 0, 0) : S21.Pd))).length = l.length * 6 := by rw [fl_len S21.pdE_len, List.length_replicate]
  generalize fl S21.pdE (List.replicate l.length (([], 0, 0, 0, 0, 0) : S21.Pd)) = Z at MK LZ
  have LX : (fl S21.pdE l).length = l.length * 6 := fl_len S21.pdE_len l
  obtain ⟨X, hX⟩ : ∃ X, fl S21.pdE l = X := ⟨_, rfl⟩
  unfold GivesW
  rw [hX] at one LX hx ⊢
  have HL : Hid (Z.length = l.length * 6 ∧ X.length = l.length * 6) := Lib.hid ⟨LZ, LX⟩
  obtain ⟨w2, hw2⟩ : ∃ x, w.alloc (.cells Z.toArray 87 (0, 0)) = x := ⟨_, rfl⟩
  have K2 : Hid (w2.heap[w.heap.size]? = some (.cells Z.toArray 87 (0, 0)) ∧ Below w.heap.size w w2) := by
    rw [← hw2]
    exact ⟨heap_alloc_new _ _, (Below.refl _ _).alloc (Nat.le_refl _) _⟩
  have S1 : Hid (0 < l.length → ∃ ad, A = some ad ∧ ∀ (j : Nat) u, X[j]? = some u → w2.cell? (ad.add j) = some u) := by
    intro h0
    obtain ⟨b, o, hA, hb, hc⟩ := hx h0
    refine ⟨_, hA, fun j u hu => ?_⟩
    rw [Addr.add_lit]
    exact (K2.out.2.cell (p := ⟨b, o + j, none⟩) hb).trans (hc j u hu)
  clear hx LZ LX hX
  go_enter Tryz.func26, Tryz.ntmps26
  go_wp2_with (with_reducible refine at_copyK ?_; refine wpList_copyK rfl (.tmp 7) (.tmp 8) 31 31 rfl 87 Tryz.underlying31 6 csize_pr _ _ _ _ _ _ rfl rfl w.heap.size 0 Z 87 K2.out.1 X l.length (Nat.min_self _).symm HL.out.2 (fun h0 => ⟨rfl, S1.out h0⟩) (by rw [HL.out.1, HL.out.2]; omega) one.out w.heap.size w K2.out.2 (Nat.le_refl _) ?_; intro w4 HG4 b4; have B4 := Lib.hid b4; clear b4)
  go_ret
  exact ⟨_, rfl, Nat.le_refl _, by rw [← splice_all Z X (by rw [HL.out.1, HL.out.2])]; exact HG4.out, B4.out⟩
end Go.Proofs.YtkhalnjgbdpfhaaGreat
