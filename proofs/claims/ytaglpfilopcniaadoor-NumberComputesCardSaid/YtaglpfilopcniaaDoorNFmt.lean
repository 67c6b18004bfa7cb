/-
  The decimal form of package number: what its call answers; nothing that existed before the call has changed behind it. Condition: an integer of 64 bits.
-/
import Derived.Test.YtaglpfilopcniaaDoorNForm
import Derived.WalkMore
import Derived.ScopeJumps
namespace Go.Proofs.YtaglpfilopcniaaDoor
open Go.RowKit
/-- The array of twenty bytes with these at its end. -/
def buf (l : List UInt8) : Array Value := (List.replicate (20 - l.length) (Value.int .u8 0) ++ l.map fun c => Value.int .u8 c.toNat).toArray
theorem buf_size (l : List UInt8) (h : l.length ≤ 20) : (buf l).size = 20 := by unfold buf; simp; omega
theorem buf_at (l : List UInt8) (g : Nat) (h : g + 1 + l.length = 20) : (buf l)[g]? = some (.int .u8 0) := by
  unfold buf
  simp only [List.getElem?_toArray]
  rw [List.getElem?_append_left (by simp; omega), List.getElem?_replicate, if_pos (by omega)]
theorem buf_set (l : List UInt8) (g : Nat) (h : g + 1 + l.length = 20) (c : UInt8) (v : Int) (hv : v = (c.toNat : Int)) : (buf l).setIfInBounds g (.int .u8 v) = buf (c :: l) := by
  subst hv
  apply Array.ext_getElem?
  intro i
  rw [Array.getElem?_setIfInBounds]
  unfold buf
  have e : 20 - l.length = g + 1 := by omega
  have e2 : 20 - (c :: l).length = g := by simp; omega
  rw [e, e2]
  simp only [List.getElem?_toArray, List.map_cons, List.size_toArray]
  by_cases hi : g = i
  · subst hi
    rw [if_pos rfl, if_pos (by simp; omega), List.getElem?_append_right (by simp)]
    simp
  · rw [if_neg hi]
    by_cases hlt : i < g
    · rw [List.getElem?_append_left (by simp; omega), List.getElem?_append_left (by simp; omega)]
      simp [List.getElem?_replicate, hlt]
      omega
    · obtain ⟨j, rfl⟩ : ∃ j, i = g + 1 + j := ⟨i - (g + 1), by omega⟩
      rw [List.getElem?_append_right (by simp), List.getElem?_append_right (by simp; omega)]
      simp
      rw [show g + 1 + j - g = j + 1 by omega]
      simp
theorem buf_byte (l : List UInt8) (g i : Nat) (h : g + l.length = 20) (hi : i < l.length) : (buf l)[g + i]? = some (.int .u8 ((l.map fun c => (c.toNat : Int)).getD i 0)) := by
  unfold buf
  simp only [List.getElem?_toArray]
  rw [List.getElem?_append_right (by simp; omega)]
  simp
  rw [show g + i - (20 - l.length) = i by omega]
  simp [List.getElem?_eq_getElem hi]
theorem arr_slice (b g m : Nat) (h : g + m = 20) (hm : 0 < m) (W : World) : (Instr.sliceAt 40 (.pointer (some ⟨b, 0, none⟩)) (some (.int .i64 g)) none none).run Tryd.prog W = .ok (.slice (some ⟨b, g, none⟩) m m) W := by
  have ha : Tryd.prog.arrayLen 40 = 20 := by kernel_rfl
  rw [run_sliceAt_array_l W 40 ⟨b, 0, none⟩ (by kernel_rfl) .i64 g (by omega) (by rw [ha]; omega)]
  obtain rfl : m = 20 - g := by omega
  have he : Tryd.prog.elem 40 = 5 := by kernel_rfl
  rw [ha, he]
  simp [slicedAt, go_sem, Addr.add]
  rw [if_neg (by omega)]
  split
  · next h0 => rw [h0]
  · rfl
theorem buf_conv (l : List UInt8) (g m : Nat) (h : g + m = 20) (hm : m = l.length) (w : World) :
    (convert 41 9 (.slice (some ⟨w.heap.size, g, none⟩) m m)).run Tryd.prog (w.alloc (.cells (buf l) 40)) = .ok (.string (str l)) (w.alloc (.cells (buf l) 40)) := by
  subst hm
  rw [run_convert_bytes_arg (P := Tryd.prog) _ 41 5 Tryd.underlying41 Tryd.underlying5 w.heap.size g l.length l.length (l.map fun c => (c.toNat : Int)) (by simp) (by
    intro i hi
    rw [World.cell?_alloc_at _ _ _ _ rfl]
    exact buf_byte l g i h hi) 9 Tryd.underlying9]
  congr 2
  simp [strOfNums, Function.comp_def]
theorem below_buf (w : World) (l : List UInt8) : Below w.heap.size w (w.alloc (.cells (buf l) 40)) := (Below.refl _ _).alloc (Nat.le_refl _) _
/-- What stands at the label each time the loop jumps to it. -/
def J (n : Int) (N : Nat) (w : World) (a' : Act) (w' : World) : Prop := ∃ (r f : Nat) (l : List UInt8) (u6 u7 u8 u9 u10 u11 u12 u13 u14 u15 u16 u17 u18 u19 u20 u21 u22 u23 : Value), w' = w.alloc (.cells (buf l) 40) ∧ a' = { tmps := #[.int .i64 n, undef, .string ⟨#[]⟩, .int .u64 r, .pointer (some ⟨w.heap.size, 0, none⟩), .int .i64 f, u6, u7, u8, u9, u10, u11, u12, u13, u14, u15, u16, u17, u18, u19, u20, u21, u22, u23, undef, undef, undef, undef, undef, undef, undef, undef, undef], defers := [] } ∧ f + l.length = 20 ∧ 0 < r ∧ r ≤ 9223372036854775808 ∧ Hid (Lib.decDigits r ++ l = Lib.decDigits N)
theorem one_more (r N : Nat) (l : List UInt8) (h : 0 < r / 10) (he : Lib.decDigits r ++ l = Lib.decDigits N) : Lib.decDigits (r / 10) ++ cod r :: l = Lib.decDigits N := by
  rw [← he, dd_step r (by omega)]
  simp [cod]
theorem last_one (r N : Nat) (l : List UInt8) (h : r / 10 = 0) (he : Lib.decDigits r ++ l = Lib.decDigits N) : cod r :: l = Lib.decDigits N := by
  rw [← he, Lib.decDigits_one (by omega)]
  unfold cod
  rw [show r % 10 = r by omega]
  rfl
theorem room (r N : Nat) (l : List UInt8) (h19 : (Lib.decDigits N).length ≤ 19) (he : Lib.decDigits r ++ l = Lib.decDigits N) : l.length ≤ 18 := by
  have h1 := congrArg List.length he
  obtain ⟨c, q, e, _⟩ := nat_head (dd_nat r)
  rw [e] at h1
  simp at h1
  omega
theorem u64_neg (n : Int) (N : Nat) (hn : n = -(N : Int)) (h0 : n < 0) (h1 : -9223372036854775808 ≤ n) : IntKind.u64.wrap (-IntKind.u64.wrap n) = (N : Int) := by
  simp [IntKind.wrap, IntKind.signed, IntKind.bits]
  omega
theorem cod_num (r : Nat) : (48 + (r : Int) % 10) = ((cod r).toNat : Int) := by
  unfold cod
  rw [ofNat_toNat _ (by omega)]
  omega
theorem zeros : (#[.int .u8 0, .int .u8 0, .int .u8 0, .int .u8 0, .int .u8 0, .int .u8 0, .int .u8 0, .int .u8 0, .int .u8 0, .int .u8 0, .int .u8 0, .int .u8 0, .int .u8 0, .int .u8 0, .int .u8 0, .int .u8 0, .int .u8 0, .int .u8 0, .int .u8 0, .int .u8 0] : Array Value) = buf [] := rfl
theorem format_pos (n : Int) (N : Nat) (hn : n = (N : Int)) (h0 : 0 ≤ n) (h1 : n ≤ 9223372036854775807) (w : World) : Calls Tryd.prog 10 #[.int .i64 n] w fun e w' => e = .returned (.string (str (Lib.decDigits N))) ∧ Below w.heap.size w w' := by
  have HN := Lib.hid hn
  have H19 := Lib.hid (dd_19 N (by omega))
  have d0 : decide ((N : Int) < 0) = false := by simp
  subst hn
  go_enter Tryd.func10, Tryd.ntmps10
  go_wp2
  refine wp_scope_jumps 0 (J N N w) (fun a' _ => (intOf (a'.tmps.getD 3 undef)).toNat) rfl ?_ ?_
  · have E := buf_set [] 19 rfl (cod N) (48 + (N : Int) % 10) (cod_num N)
    have k := buf_at [] 19 rfl
    go_wp2
    rw [zeros]
    by_cases hr : 0 < (N : Int) / 10
    · have P := Lib.hid (one_more N N [] (by omega) (by simp))
      go_step3
      go_wp2
      go_step3
      refine ⟨rfl, ?_⟩
      exact ⟨N / 10, 19, [cod N], _, _, _, _, _, _, _, _, _, _, _, _, _, _, _, _, _, _, rfl, rfl, rfl, by omega, by omega, P⟩
    · have hr0 : (N : Int) / 10 = 0 := by omega
      have L := Lib.hid (last_one N N [] (by have := HN.out; omega) (by simp))
      have S := fun W => arr_slice w.heap.size 19 1 (by decide) (by decide) W
      have C := buf_conv (cod N :: []) 19 1 (by decide) (by simp) w
      clear hr0
      go_step3
      go_wp2
      simp only [Exit.jump]
      go_ret
      exact ⟨ret_sstr (by rw [← L.out]), below_buf _ _⟩
  · rintro a' w' ⟨r, f, l, u6, u7, u8, u9, u10, u11, u12, u13, u14, u15, u16, u17, u18, u19, u20, u21, u22, u23, rfl, rfl, hf, r0, r1, he⟩
    have hle := room r N l H19.out he.out
    obtain ⟨g, rfl⟩ : ∃ g, f = g + 1 := ⟨f - 1, by omega⟩
    have k := buf_at l g hf
    have E := buf_set l g hf (cod r) (48 + (r : Int) % 10) (cod_num r)
    by_cases hr : 0 < (r : Int) / 10
    · have P := Lib.hid (one_more r N l (by omega) he.out)
      go_wp2
      go_step3
      refine ⟨rfl, ⟨r / 10, g, cod r :: l, _, _, _, _, _, _, _, _, _, _, _, _, _, _, _, _, _, _, rfl, rfl, by simp <;> omega, by omega, by omega, P⟩, ?_⟩
      simp [intOf]
      omega
    · have hr0 : r / 10 = 0 := by omega
      obtain ⟨m, hm⟩ : ∃ m, m = l.length + 1 := ⟨_, rfl⟩
      have L := Lib.hid (last_one r N l (by omega) he.out)
      have S := fun W => arr_slice w.heap.size g m (by omega) (by omega) W
      have C := buf_conv (cod r :: l) g m (by omega) (by simp <;> omega) w
      clear hr0 hm
      go_wp2
      simp only [Exit.jump]
      go_ret
      exact ⟨ret_sstr (by rw [← L.out]), below_buf _ _⟩
theorem format_neg (n : Int) (N : Nat) (hn : n = -(N : Int)) (h0 : n < 0) (h1 : -9223372036854775808 ≤ n) (w : World) : Calls Tryd.prog 10 #[.int .i64 n] w fun e w' => e = .returned (.string (str (45 :: Lib.decDigits N))) ∧ Below w.heap.size w w' := by
  have HN := Lib.hid hn
  have H19 := Lib.hid (dd_19 N (by omega))
  have d0 : decide (n < 0) = true := by simp; omega
  have U : IntKind.u64.wrap (-IntKind.u64.wrap n) = (N : Int) := u64_neg n N hn h0 h1
  have N1 : N ≤ 9223372036854775808 := by omega
  have N0 : 0 < N := by omega
  clear hn
  go_enter Tryd.func10, Tryd.ntmps10
  go_wp2
  refine wp_scope_jumps 0 (J n N w) (fun a' _ => (intOf (a'.tmps.getD 3 undef)).toNat) rfl ?_ ?_
  · have E := buf_set [] 19 rfl (cod N) (48 + (N : Int) % 10) (cod_num N)
    have k := buf_at [] 19 rfl
    go_wp2
    rw [zeros]
    by_cases hr : 0 < (N : Int) / 10
    · have P := Lib.hid (one_more N N [] (by omega) (by simp))
      go_step3
      go_wp2
      go_step3
      refine ⟨rfl, ?_⟩
      exact ⟨N / 10, 19, [cod N], _, _, _, _, _, _, _, _, _, _, _, _, _, _, _, _, _, _, rfl, rfl, rfl, by omega, by omega, P⟩
    · have hr0 : (N : Int) / 10 = 0 := by omega
      have L := Lib.hid (last_one N N [] (by have := HN.out; omega) (by simp))
      have k2 := buf_at (cod N :: []) 18 (by simp)
      have E2 := buf_set (cod N :: []) 18 (by simp) 45 45 rfl
      have S := fun W => arr_slice w.heap.size 18 2 (by decide) (by decide) W
      have C := buf_conv (45 :: cod N :: []) 18 2 (by decide) (by simp) w
      clear hr0
      go_step3
      go_wp2
      simp only [Exit.jump]
      go_ret
      exact ⟨ret_sstr (by rw [← L.out]), below_buf _ _⟩
  · rintro a' w' ⟨r, f, l, u6, u7, u8, u9, u10, u11, u12, u13, u14, u15, u16, u17, u18, u19, u20, u21, u22, u23, rfl, rfl, hf, r0, r1, he⟩
    have hle := room r N l H19.out he.out
    obtain ⟨g, rfl⟩ : ∃ g, f = g + 1 := ⟨f - 1, by omega⟩
    have k := buf_at l g hf
    have E := buf_set l g hf (cod r) (48 + (r : Int) % 10) (cod_num r)
    by_cases hr : 0 < (r : Int) / 10
    · have P := Lib.hid (one_more r N l (by omega) he.out)
      go_wp2
      go_step3
      refine ⟨rfl, ⟨r / 10, g, cod r :: l, _, _, _, _, _, _, _, _, _, _, _, _, _, _, _, _, _, _, rfl, rfl, by simp <;> omega, by omega, by omega, P⟩, ?_⟩
      simp [intOf]
      omega
    · have hr0 : r / 10 = 0 := by omega
      obtain ⟨h, rfl⟩ : ∃ h, g = h + 1 := ⟨g - 1, by omega⟩
      obtain ⟨m, hm⟩ : ∃ m, m = l.length + 2 := ⟨_, rfl⟩
      have L := Lib.hid (last_one r N l (by omega) he.out)
      have k2 := buf_at (cod r :: l) h (by simp <;> omega)
      have E2 := buf_set (cod r :: l) h (by simp <;> omega) 45 45 rfl
      have S := fun W => arr_slice w.heap.size h m (by omega) (by omega) W
      have C := buf_conv (45 :: cod r :: l) h m (by omega) (by simp <;> omega) w
      clear hr0 hm
      go_wp2
      simp only [Exit.jump]
      go_ret
      exact ⟨ret_sstr (by rw [← L.out]), below_buf _ _⟩
theorem format_any (n : Int) (h0 : -9223372036854775808 ≤ n) (h1 : n ≤ 9223372036854775807) (w : World) : Calls Tryd.prog 10 #[.int .i64 n] w fun e w' => e = .returned (.string (str (Lib.itoa n))) ∧ Below w.heap.size w w' := by
  by_cases h : n < 0
  · rw [itoa_neg n h]
    exact format_neg n n.natAbs (by omega) h h0 w
  · rw [itoa_pos n (by omega)]
    exact format_pos n n.toNat (by omega) (by omega) h1 w
end Go.Proofs.YtaglpfilopcniaaDoor
