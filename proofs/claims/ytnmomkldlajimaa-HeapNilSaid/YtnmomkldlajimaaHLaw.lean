/-
  The laws HeapDrains and HeapNil: true for every input, nothing that existed has changed. Condition: the integers are ints.
-/
import Derived.Test.YtnmomkldlajimaaHEx2
namespace Go.Proofs.Ytnmomkldlajimaa
open Go.RowKit

theorem guard3 (m : Int) (n : Nat) (t : Int) : m < 0 ∨ (decide (m < 0) = false ∧ t < m) ∨ (decide (m < 0) = false ∧ decide (t < m) = false ∧ (200 : Int) < (n : Int)) ∨ (decide (m < 0) = false ∧ decide (t < m) = false ∧ decide ((200 : Int) < (n : Int)) = false ∧ 0 ≤ m ∧ m ≤ t ∧ n ≤ 200) := by
  by_cases h0 : m < 0
  · exact .inl h0
  by_cases h1 : t < m
  · exact .inr (.inl ⟨decide_eq_false h0, h1⟩)
  by_cases h2 : (200 : Int) < (n : Int)
  · exact .inr (.inr (.inl ⟨decide_eq_false h0, decide_eq_false h1, h2⟩))
  · exact .inr (.inr (.inr ⟨decide_eq_false h0, decide_eq_false h1, decide_eq_false h2, by omega, by omega, by omega⟩))
/-- One more element of a list pushed. -/
theorem push_next (less : Pr → Pr → Bool) {l : List Pr} {k : Nat} {x : Pr} (h : l[k]? = some x) : pushAll less [] 0 (l.take (k + 1)) = pushH less (pushAll less [] 0 (l.take k)) k x := by
  have hk := (List.getElem?_eq_some_iff.1 h).1
  rw [take_one l k x h, pushAll_snoc, List.length_take, Nat.min_eq_left (by omega), Nat.zero_add]
theorem push_count (less : Pr → Pr → Bool) {l : List Pr} {k : Nat} (hk : k ≤ l.length) : (pushAll less [] 0 (l.take k)).length = k := by
  rw [pushAll_len, List.length_nil, List.length_take, Nat.min_eq_left hk, Nat.zero_add]
/-- What a law's loop over a list knows when it has pushed k elements. -/
def PushR (m : Int) (B : Nat) (l : List Pr) (w : World) (k : Nat) (wr : World) : Prop := St wr B (fnM m) (pushAll (lessM m) [] 0 (l.take k)) k ∧ Below B w wr
/-- One round. -/
theorem push_round (m : Int) (B : Nat) (l : List Pr) (hl : l.length ≤ 200) (hk : ∀ a ∈ l, Ok2 a) (w : World) {k : Nat} {x : Pr} (hx : l[k]? = some x) (hB : B ≤ w.heap.size) (wr : World) (h : PushR m B l w k wr) :
    Calls Try.prog 13 #[.pointer (some ⟨B, 0, none⟩), .agg #[.int .i64 x.1, .int .i64 x.2]] (wr.alloc (.cells #[.int .i64 x.1, .int .i64 x.2] 28 (0, 0))) fun e w' => e = .returned (.tuple #[]) ∧ PushR m B l w (k + 1) w' := by
  have hkl := (List.getElem?_eq_some_iff.1 hx).1
  have hc := push_count (lessM m) (l := l) (k := k) (by omega)
  refine (push_any (fun_mode m) B k (pushAll (lessM m) [] 0 (l.take k)) x (ok_at hk hx) (by omega) (by omega) _ (h.1.below ((Below.refl _ _).alloc (Nat.le_refl _) _))).mono ?_
  rintro e w2 ⟨rfl, s2, f2⟩
  have hz : B ≤ wr.heap.size := Nat.le_trans hB h.2.size
  refine ⟨rfl, by rw [push_next (lessM m) hx]; exact s2, (h.2.alloc hz _).trans (f2.below (by simp; omega))⟩
set_option maxRecDepth 100000 in
set_option maxHeartbeats 4000000 in
theorem drains_law (m : Int) (v : Value) (l : List Pr) (hn : l.length ≤ 9223372036854775807) (hk : ∀ a ∈ l, Ok2 a) (w : World) (h : LstP w v l) : Calls Try.prog 5 #[.int .i64 m, v] w fun e w' => e = .returned (.bool true) ∧ Below w.heap.size w w' := by
  have M := Lib.hid (made_any m w)
  have hh := h
  obtain ⟨A, c, rfl, -⟩ := hh
  have H : Hid (LstP w (.slice A l.length c) l) := h
  have HK := Lib.hid hk
  clear h hk
  rcases guard3 m l.length 2 with h0 | ⟨h0, h1⟩ | ⟨h0, h1, h2⟩ | ⟨h0, h1, h2, h3, h4, h5⟩
  · clear H HK hn
    go_enter Try.func5, Try.ntmps5
    go_wp2_with fail
    refine M.out.mono ?_
    rintro e w1 ⟨rfl, -, b1⟩
    go_wp2_with fail
    refine (rel (W := w) (ex_any w1) b1).mono ?_
    rintro e w2 ⟨rfl, b2⟩
    clear b1
    go_wp2_with fail
    go_ret
    exact ⟨rfl, b2⟩
  · clear H HK hn
    go_enter Try.func5, Try.ntmps5
    go_wp2_with fail
    refine M.out.mono ?_
    rintro e w1 ⟨rfl, -, b1⟩
    go_wp2_with fail
    refine (rel (W := w) (ex_any w1) b1).mono ?_
    rintro e w2 ⟨rfl, b2⟩
    clear b1
    go_wp2_with fail
    go_ret
    exact ⟨rfl, b2⟩
  · clear H HK hn
    go_enter Try.func5, Try.ntmps5
    go_wp2_with fail
    refine M.out.mono ?_
    rintro e w1 ⟨rfl, -, b1⟩
    go_wp2_with fail
    refine (rel (W := w) (ex_any w1) b1).mono ?_
    rintro e w2 ⟨rfl, b2⟩
    clear b1
    go_wp2_with fail
    go_ret
    exact ⟨rfl, b2⟩
  · have OM := Lib.hid (ord_mode h3 h4)
    go_enter Try.func5, Try.ntmps5
    go_wp2_with fail
    refine M.out.mono ?_
    rintro e w1 ⟨rfl, s1, b1⟩
    have P1 : Hid (PushR m w.heap.size l w 0 w1) := ⟨s1, b1⟩
    clear s1 b1 M
    go_wp2_with fail
    go_loopw [28] (fun u wr => ∃ k : Nat, u = .int .i64 (k : Int) ∧ k ≤ l.length ∧ Hid (PushR m w.heap.size l w k wr)) (fun u _ => l.length - (intOf u).toNat)
    case atStart => exact ⟨0, rfl, Nat.zero_le _, P1⟩
    case round =>
      obtain ⟨k, rfl, hkl, HP⟩ := hrel
      by_cases hlt : k < l.length
      · obtain ⟨x, hx⟩ := at_lt hlt
        obtain ⟨b, o, c', hv, hb, x0, x1⟩ := LstG.pair H.out hx
        cases hv
        rw [← HP.out.2.cell (p := ⟨b, _, none⟩) hb] at x0 x1
        have hbr : b < wr.heap.size := Nat.lt_of_lt_of_le hb HP.out.2.size
        have C := Lib.hid (push_round m w.heap.size l h5 HK.out w hx (Nat.le_refl _) wr HP.out)
        have gk : (k : Int) < (l.length : Int) := by omega
        clear hx HP
        go_wp2_with fail
        refine C.out.mono ?_
        rintro e w2 ⟨rfl, p2⟩
        have P2 := Lib.hid p2
        clear p2 x0 x1 C
        go_wp2_with fail
        go_roundw
        case rel => exact ⟨k + 1, by go_num, by omega, P2⟩
        case measure => simp [intOf]; omega
      · have hk2 : k = l.length := by omega
        subst hk2
        have S := HP.out.1
        rw [List.take_length] at S
        have SS := Lib.hid S
        have B0 := Lib.hid HP.out.2
        have hc : (pushAll (lessM m) [] 0 l).length = l.length := by rw [pushAll_len]; simp
        have dd : decide (l.length < l.length) = false := by simp
        clear S HP hlt
        go_wp2_with fail
        refine (drain_any (fun_mode m) w.heap.size l.length (pushAll (lessM m) [] 0 l) (by omega) wr SS.out).mono ?_
        rintro e w2 ⟨v2, rfl, o2, s2, f2⟩
        have B2 : Hid (Below w.heap.size w w2) := B0.out.trans (f2.below B0.out.size)
        have L2 := Lib.hid (H.out.below B2.out)
        have O2 := Lib.hid (OwnG.lst o2)
        have S2 := Lib.hid s2
        clear o2 s2 f2 SS B0
        go_wp2_with fail
        refine (sorted_any m _ l HK.out (by omega) w2 L2.out).mono ?_
        rintro e w3 ⟨v3, rfl, o3, b3⟩
        have B3 : Hid (Below w.heap.size w w3) := B2.out.trans (b3.mono B2.out.size)
        have O3 := Lib.hid (OwnG.lst o3)
        have P3 := Lib.hid (O2.out.below b3)
        have S3 := Lib.hid (S2.out.below b3)
        clear o3 b3 B2 L2 O2 S2
        go_wp2_with fail
        refine (same_any v2 v3 (sortH (lessM m) l) (by rw [sort_len]; omega) w3 P3.out O3.out).mono ?_
        rintro e w4 ⟨rfl, b4⟩
        have B4 : Hid (Below w.heap.size w w4) := B3.out.trans (b4.mono B3.out.size)
        have S4 := Lib.hid (S3.out.below b4)
        clear b4 B3 O3 P3 S3
        go_wp2_with fail
        refine (len_any w.heap.size l.length [] w4 S4.out).mono ?_
        rintro e w' ⟨rfl, rfl⟩
        clear S4
        go_wp2_with fail
        refine (rel (W := w) (ex_any w4) B4.out).mono ?_
        rintro e w5 ⟨rfl, b5⟩
        clear B4
        go_wp2_with fail
        go_ret
        exact ⟨rfl, b5⟩
theorem run_equalIn_sl (d : Nat) (t : TypeId) (A : Option Addr) (n c : Nat) {e : TypeId} (h : Try.prog.underlying t = some (.slice e)) (w : World) : (Op.equalIn (d + 1) t (.slice A n c) (.slice none 0 0)).run Try.prog w = .ok A.isNone w := by
  cases A <;> simp [Op.equalIn, run_underlying h]
theorem run_equal_sl (t : TypeId) (A : Option Addr) (n c : Nat) {e : TypeId} (h : Try.prog.underlying t = some (.slice e)) (w : World) : (Op.equal t (.slice A n c) (.slice none 0 0)).run Try.prog w = .ok A.isNone w := run_equalIn_sl 9999 t A n c h w
theorem slice_is_nil (t : TypeId) (A : Option Addr) (n c : Nat) {e : TypeId} (h : Try.prog.underlying t = some (.slice e)) (w : World) : (binOp BinOp.eql t (.slice A n c) (.slice none 0 0)).run Try.prog w = .ok (.bool A.isNone) w := by
  simp only [binOp]
  simp [run_equal_sl t A n c h w]
theorem clone_any (v : Value) (l : List Pr) (hl : l.length ≤ 1000000) (w : World) (h : LstP w v l) :
    Calls Try.prog 42 #[v] w fun e w' => ∃ v', e = .returned v' ∧ LstP w' v' l ∧ Below w.heap.size w w' := by
  have hh := h
  obtain ⟨A, c, rfl, -, hn, -⟩ := hh
  cases A with
  | none =>
    obtain rfl := hn rfl
    have hl0 : l.length = 0 := by obtain ⟨_, _, hv, h1, _⟩ := h; cases hv; omega
    have hl1 : l = [] := List.length_eq_zero_iff.1 hl0
    subst hl1
    clear h hl0 hn
    simp only [List.length_nil]
    have SN : ∀ W, (binOp BinOp.eql 26 (.slice none 0 0) (.slice none 0 0)).run Try.prog W = .ok (.bool true) W := fun W => slice_is_nil 26 none 0 0 Try.underlying26 W
    go_enter Try.func42, Try.ntmps42
    go_wp2_with fail
    go_ret
    exact ⟨_, rfl, LstG.nil _ _, Below.refl _ _⟩
  | some a =>
    have H := Lib.hid h
    clear h hn
    go_enter Try.func42, Try.ntmps42
    have o0 : OwnP (w.alloc (.cells #[] 28 (0, 0))) w.heap.size (.slice (some ⟨w.heap.size, 0, none⟩) 0 0) [] := World.ownsRow_lit w #[] 0 (Nat.le_refl _) (by unfold maxLen; omega) rfl
    have O0 := Lib.hid o0
    have SN : ∀ W, (binOp BinOp.eql 26 (.slice (some a) l.length c) (.slice none 0 0)).run Try.prog W = .ok (.bool false) W := fun W => slice_is_nil 26 (some a) l.length c Try.underlying26 W
    clear o0
    go_wp2_with (at_builtin; refine appG_list pc_len pc_one (by decide) Try.underlying26 info_pr rfl (by decide) _ rfl (.tmp 5) (.tmp 6) rfl w.heap.size _ [] l rfl O0.out _ rfl (H.out.below ((Below.refl _ _).alloc (Nat.le_refl _) _)) (by simp) (by simp; omega) ?_)
    intro v1 w2 own1 b2 _ _
    have R : Hid (LstP w2 v1 l ∧ Below w.heap.size w w2) := ⟨OwnG.lst own1, ((Below.refl _ _).alloc (Nat.le_refl _) _).trans b2⟩
    clear own1 b2
    go_wp2_with fail
    go_ret
    exact ⟨_, rfl, R.out⟩
theorem sort_nil (v : Value) (l : List Pr) (hl : l.length ≤ 1000000) (w : World) (h : LstP w v l) :
    Calls Try.prog 28 #[v, .nilFunc] w fun e w' => ∃ v', e = .returned v' ∧ LstP w' v' l ∧ Below w.heap.size w w' := by
  have FN := fun W => fn_nil 54 Try.underlying54 W
  have C := Lib.hid (clone_any v l hl w h)
  clear h
  go_enter Try.func28, Try.ntmps28
  go_wp2_with fail
  refine C.out.mono ?_
  rintro e w1 ⟨v1, rfl, l1, b1⟩
  have R : Hid (LstP w1 v1 l ∧ Below w.heap.size w w1) := ⟨l1, b1⟩
  clear l1 b1
  go_wp2_with fail
  go_ret
  exact ⟨_, rfl, R.out⟩
set_option maxRecDepth 100000 in
set_option maxHeartbeats 4000000 in
theorem nil_law (v : Value) (l : List Pr) (hn : l.length ≤ 9223372036854775807) (w : World) (h : LstP w v l) : Calls Try.prog 9 #[v] w fun e w' => e = .returned (.bool true) ∧ Below w.heap.size w w' := by
  have hh := h
  obtain ⟨A, c, rfl, -⟩ := hh
  have H : Hid (LstP w (.slice A l.length c) l) := h
  clear h
  by_cases h2 : (200 : Int) < (l.length : Int)
  · clear H hn
    go_enter Try.func9, Try.ntmps9
    go_wp2_with fail
    refine (ex_any w).mono ?_
    rintro e w2 ⟨rfl, b2⟩
    go_wp2_with fail
    go_ret
    exact ⟨rfl, b2⟩
  · have h5 : l.length ≤ 200 := by omega
    have d2 : decide ((200 : Int) < (l.length : Int)) = false := decide_eq_false h2
    clear h2 hn
    go_enter Try.func9, Try.ntmps9
    go_wp2_with fail
    refine (new_nil w).mono ?_
    rintro e w' ⟨rfl, rfl⟩
    go_wp2_with fail
    go_loopw [18] (fun u wr => ∃ k : Nat, u = .int .i64 (k : Int) ∧ k ≤ l.length ∧ Hid (Below w.heap.size w wr)) (fun u _ => l.length - (intOf u).toNat)
    case atStart => exact ⟨0, rfl, Nat.zero_le _, Lib.hid (Below.refl _ _)⟩
    case round =>
      obtain ⟨k, rfl, hkl, HB⟩ := hrel
      by_cases hlt : k < l.length
      · obtain ⟨x, hx⟩ := at_lt hlt
        obtain ⟨b, o, c', hv, hb, x0, x1⟩ := LstG.pair H.out hx
        cases hv
        rw [← HB.out.cell (p := ⟨b, _, none⟩) hb] at x0 x1
        have hbr : b < wr.heap.size := Nat.lt_of_lt_of_le hb HB.out.size
        have gk : (k : Int) < (l.length : Int) := by omega
        clear hx
        go_wp2_with fail
        refine (rel (W := w) (push_nil x _) (HB.out.alloc HB.out.size _)).mono ?_
        rintro e w2 ⟨rfl, b2⟩
        have B2 := Lib.hid b2
        clear b2 x0 x1
        go_wp2_with fail
        go_roundw
        case rel => exact ⟨k + 1, by go_num, by omega, B2⟩
        case measure => simp [intOf]; omega
      · have hk2 : k = l.length := by omega
        subst hk2
        have dd : decide (l.length < l.length) = false := by simp
        clear hlt
        go_wp2_with fail
        refine (rel (W := w) (pop_nil _) HB.out).mono ?_
        rintro e w2 ⟨rfl, b2⟩
        have B2 := Lib.hid (b2.alloc b2.size (.cells #[.int .i64 0, .int .i64 0] 28 (0, 0)))
        have r2 := heap_alloc_new w2 (.cells #[.int .i64 0, .int .i64 0] 28 (0, 0))
        have z2 : w2.heap.size < (w2.alloc (.cells #[.int .i64 0, .int .i64 0] 28 (0, 0))).heap.size := by simp
        clear b2
        go_wp2_with fail
        generalize w2.alloc (.cells #[.int .i64 0, .int .i64 0] 28 (0, 0)) = w3 at B2 r2 z2 ⊢
        refine (peek_nil w3).mono ?_
        rintro e w4 ⟨rfl, b4⟩
        have r3 := (b4.block _ z2).trans r2
        have z3 := Nat.lt_of_lt_of_le z2 b4.size
        have B4 : Hid (Below w.heap.size w (w4.alloc (.cells #[.int .i64 0, .int .i64 0] 28 (0, 0)))) := (B2.out.trans (b4.mono B2.out.size)).alloc (by have := B2.out.size; have := b4.size; omega) _
        have r4 := heap_alloc_new w4 (.cells #[.int .i64 0, .int .i64 0] 28 (0, 0))
        have r5 := (Go.heap_alloc_old w4 (.cells #[.int .i64 0, .int .i64 0] 28 (0, 0)) z3).trans r3
        have x0 : w4.cell? ⟨w2.heap.size, 0, none⟩ = some (.int .i64 0) := by rw [cell_of_row _ _ 0 _ _ _ r3]; rfl
        have x1 : w4.cell? ⟨w2.heap.size, 1, none⟩ = some (.int .i64 0) := by rw [cell_of_row _ _ 1 _ _ _ r3]; rfl
        clear b4 r2 r3 z2 B2 HB r4 r5
        go_wp2_with fail
        refine (len_nil _).mono ?_
        rintro e w' ⟨rfl, rfl⟩
        clear x0 x1
        go_wp2_with fail
        refine (rel (W := w) (drain_nil_any _) B4.out).mono ?_
        rintro e w6 ⟨rfl, b6⟩
        have B6 := Lib.hid b6
        clear b6 B4
        go_wp2_with fail
        refine (sort_nil _ l (by omega) w6 (H.out.below B6.out)).mono ?_
        rintro e w7 ⟨v7, rfl, l7, b7⟩
        have B7 : Hid (Below w.heap.size w w7) := B6.out.trans (b7.mono B6.out.size)
        have L7 := Lib.hid l7
        clear l7 b7 B6
        go_wp2_with fail
        refine (rel (W := w) (same_any v7 _ l (by omega) w7 L7.out (H.out.below B7.out)) B7.out).mono ?_
        rintro e w8 ⟨rfl, b8⟩
        have B8 := Lib.hid b8
        clear b8 B7 L7
        go_wp2_with fail
        refine (rel (W := w) (ex_any w8) B8.out).mono ?_
        rintro e w9 ⟨rfl, b9⟩
        clear B8
        go_wp2_with fail
        go_ret
        exact ⟨rfl, b9⟩
end Go.Proofs.Ytnmomkldlajimaa
