/-
  The functions of package field and of its reference that write forms: what each call answers; nothing that existed before the call has changed behind it. Condition: a string of at most 2^40 bytes.
-/
import Derived.Test.YtpdekihfgglmkaaDoorFPlain
import Derived.Test.YtpdekihfgglmkaaDoorShelf
namespace Go.Proofs.YtpdekihfgglmkaaDoor
open Go.RowKit

theorem OwnB.alloc {w : World} {base : Nat} {v : Value} {l : List UInt8} (h : OwnB w base v l) (o : Obj) : OwnB (w.alloc o) base v l := World.ownsRow.alloc h o
theorem OwnB.below {w w' : World} {base : Nat} {v : Value} {l : List UInt8} (h : OwnB w base v l) (hb : Below w.heap.size w w') : OwnB w' base v l := own_below h hb
theorem OwnB.lit (w : World) (base : Nat) (hb : base ≤ w.heap.size) (cells : Array Value) (l : List UInt8) (hc : cells.toList = bts l) (n : Nat) (hn : n = l.length) (hm : l.length ≤ 1099511627776) :
    OwnB (w.alloc (.cells cells 5)) base (.slice (some ⟨w.heap.size, 0, none⟩) n n) l := by
  subst hn
  have hs : cells.size = l.length := by rw [← Array.length_toList, hc, List.length_map]
  have := World.ownsRow_lit (base := base) (e := 5) (size := 1) w cells l.length hb (by unfold maxLen; omega) (by omega)
  unfold OwnB
  rw [← hc]
  exact this
theorem at_run8 (s : ByteArray) (i : Nat) (c : UInt8) (h : s.data.toList[i]? = some c) (e : Int) (he : e = i) (W : World) : (Instr.index 9 (.string s) (.int .u8 e)).run Tryd.prog W = .ok (.int .u8 c.toNat) W := by
  subst he
  have hi : i < s.size := by have := (List.getElem?_eq_some_iff.1 h).1; simpa using this
  have h1 : (Instr.index 9 (.string s) (.int .u8 i)).run Tryd.prog W = .ok (.int .u8 s[i].toNat) W := by go_simp
  rw [h1]
  have := list_at s i hi
  rw [h] at this
  rw [Option.some.inj this]
theorem dig_list : ∀ n, n < 16 → ([48, 49, 50, 51, 52, 53, 54, 55, 56, 57, 97, 98, 99, 100, 101, 102] : List UInt8)[n]? = some (hexD n) := by decide
theorem dig_run (n : Nat) (h : n < 16) (e : Int) (he : e = n) (W : World) : (Instr.index 9 (.string ⟨#[48, 49, 50, 51, 52, 53, 54, 55, 56, 57, 97, 98, 99, 100, 101, 102]⟩) (.int .u8 e)).run Tryd.prog W = .ok (.int .u8 (hexD n).toNat) W :=
  at_run8 _ n _ (dig_list n h) e he W
theorem u8_quo (c : UInt8) : IntKind.u8.wrap ((c.toNat : Int) / 16) = ((c.toNat / 16 : Nat) : Int) := by
  have := c.toNat_lt
  simp only [IntKind.wrap, IntKind.signed, IntKind.bits]
  simp
  omega
theorem u8_rem (c : UInt8) : (c.toNat : Int).tmod 16 = ((c.toNat % 16 : Nat) : Int) := by
  rw [Int.tmod_eq_emod_of_nonneg (by omega)]
  omega
set_option maxHeartbeats 800000 in
theorem escaped_any (s : ByteArray) (hs : s.size ≤ 1099511627776) (w : World) : Calls Tryd.prog 29 #[.string s] w fun e w' => e = .returned (.string (str (inner s.data.toList))) ∧ Below w.heap.size w w' := by
  go_enter Tryd.func29, Tryd.ntmps29
  go_wp2_with fail
  go_loopw [3, 8] (fun v i wr => ∃ k : Nat, i = .int .i64 k ∧ k ≤ s.size ∧ OwnB wr w.heap.size v (inner (s.data.toList.take k)) ∧ Below w.heap.size w wr) (fun _ i _ => s.size - (intOf i).toNat)
  case atStart => exact ⟨0, rfl, Nat.zero_le _, OwnB.nil _ _, Below.refl _ _⟩
  case round =>
    obtain ⟨k, rfl, hle, hown, hb⟩ := hrel
    have hlen := inner_take_le s.data.toList k
    rw [sz_list] at hlen
    have hz := hb.size
    by_cases hp : k < s.size
    · obtain ⟨c, hc⟩ := get_at' s k hp
      have k1 := fun W => at_run s k c hc k rfl W
      have hcb := c.toNat_lt
      have E := inner_take _ k c hc
      have HO := Lib.hid hown
      have HB := Lib.hid hb
      clear hown hb
      cases hctl : ctl c with
      | true =>
        have hcc := (ctl_iff c).1 hctl
        rw [esc_ctl_is c hctl] at E
        have EE := Lib.hid E
        have q1 : ((c.toNat : Int) == 34) = false := beq_false (by omega)
        have q2 : ((c.toNat : Int) == 92) = false := beq_false (by omega)
        have C := Lib.hid (fun w => isControl_yes (c.toNat : Int) (by omega) w)
        have d1 := fun W => dig_run (c.toNat / 16) (by omega) (IntKind.u8.wrap ((c.toNat : Int) / 16)) (u8_quo c) W
        have d2 := fun W => dig_run (c.toNat % 16) (by omega) ((c.toNat : Int).tmod 16) (u8_rem c) W
        clear E hc hctl hcc
        go_wp2_with fail
        refine (C.out _).mono ?_
        rintro e w' ⟨rfl, rfl⟩
        go_wp2_with fail
        go_region_law (first | (refine step_bytes _ rfl _ _ rfl w.heap.size _ _ [92, 120, hexD (c.toNat / 16), hexD (c.toNat % 16)] rfl (OwnB.alloc HO.out _) wr.heap.size _ (heap_alloc_new _ _) rfl rfl (by simp; omega) (by simp; omega) ?_; intro v1 w1 own1 b1))
        all_goals
          go_wp2_with fail
          go_roundw
          case rel => exact ⟨k + 1, by go_num, by omega, by rw [EE.out]; exact own1, ((HB.out.drew).alloc hz _).trans b1⟩
          case measure => simp [intOf]; omega
      | false =>
        have hcc : ¬ (c.toNat < 32 ∨ c.toNat = 127) := fun h => by rw [(ctl_iff c).2 h] at hctl; cases hctl
        by_cases h2 : c = 34 ∨ c = 92
        · rw [esc_sign_is c hctl h2] at E
          have EE := Lib.hid E
          clear E hc hctl hcc
          have hq : ((c.toNat : Int) == 34) = true ∨ (((c.toNat : Int) == 34) = false ∧ ((c.toNat : Int) == 92) = true) := by
            rcases h2 with rfl | rfl
            · exact Or.inl rfl
            · exact Or.inr ⟨rfl, rfl⟩
          clear h2
          rcases hq with q1 | ⟨q1, q2⟩
          all_goals
            go_wp2_with (at_builtin; refine app_bytes _ rfl _ _ rfl w.heap.size _ _ [92, c] rfl (OwnB.alloc HO.out _) wr.heap.size _ (heap_alloc_new _ _) rfl rfl (by simp; omega) (by simp; omega) ?_; intro v1 w1 own1 b1)
            go_roundw
            case rel => exact ⟨k + 1, by go_num, by omega, by rw [EE.out]; exact own1, (HB.out.alloc hz _).trans b1⟩
            case measure => simp [intOf]; omega
        · rw [esc_else_is c hctl (fun e => h2 (Or.inl e)) (fun e => h2 (Or.inr e))] at E
          have EE := Lib.hid E
          have q1 : ((c.toNat : Int) == 34) = false := beq_false (fun e => h2 (Or.inl (UInt8.toNat_inj.1 (show c.toNat = 34 by omega))))
          have q2 : ((c.toNat : Int) == 92) = false := beq_false (fun e => h2 (Or.inr (UInt8.toNat_inj.1 (show c.toNat = 92 by omega))))
          have C := Lib.hid (fun w => isControl_no (c.toNat : Int) (by omega) (by omega) w)
          clear E hc hctl hcc h2
          go_wp2_with fail
          refine (C.out _).mono ?_
          rintro e w' ⟨rfl, rfl⟩
          go_wp2_with (at_builtin; refine app_bytes _ rfl _ _ rfl w.heap.size _ _ [c] rfl (OwnB.alloc HO.out _) wr.heap.size _ (heap_alloc_new _ _) rfl rfl (by simp; omega) (by simp; omega) ?_; intro v1 w1 own1 b1)
          go_roundw
          case rel => exact ⟨k + 1, by go_num, by omega, by rw [EE.out]; exact own1, (HB.out.alloc hz _).trans b1⟩
          case measure => simp [intOf]; omega
    · have EE : s.data.toList.take k = s.data.toList := List.take_of_length_le (by rw [sz_list]; omega)
      rw [EE] at hown
      have cv := own_conv hown
      clear EE hlen
      have HB := Lib.hid hb
      clear hb hown
      go_wp2_with fail
      go_ret
      exact ⟨rfl, HB.out⟩

/-! ### Joining -/
theorem join_flat (xs : List (List UInt8)) : Lib.join xs [] = xs.flatten := by
  simp [Lib.join, List.intercalate]
  induction xs with
  | nil => rfl
  | cons a t ih => cases t <;> simp_all [List.intersperse]
/-- The strings of a slice, with a text between each two. -/
theorem join_any (sep : List UInt8) (xs : List (List UInt8)) (A : Option Addr) (c : Nat) (w : World) (hc : xs.length ≤ c) (hN : xs.length ≤ 1099511627776) (hlen : (Lib.join xs sep).length ≤ 140737488355328)
    (hcells : 0 < xs.length → ∃ b o, A = some ⟨b, o, none⟩ ∧ b < w.heap.size ∧ ∀ (j : Nat) x, (sts xs)[j]? = some x → w.cell? ⟨b, o + j, none⟩ = some x) :
    Calls Tryd.prog 28 #[.string (str sep), .slice A xs.length c] w fun e w' => e = .returned (.string (str (Lib.join xs sep))) ∧ Below w.heap.size w w' := by
  have J : Hid (Calls Tryd.prog 41 #[.slice A xs.length c, .string (str sep)] w fun e w' => e = .returned (.string (str (Lib.join xs sep))) ∧ Below w.heap.size w w') := by
    show Calls _ _ _ _ _
    by_cases h0 : xs = []
    · subst h0
      exact (Tryd.strings_Join_none A c (str sep) w).mono fun e w' ⟨he, hw⟩ => ⟨he, hw ▸ Below.refl _ _⟩
    · obtain ⟨b, o, rfl, hb, hx⟩ := hcells (List.length_pos_iff.2 h0)
      have hm : (xs.map str).map (·.data.toList) = xs := by simp [Function.comp_def]
      have h := Tryd.strings_Join b o c (xs.map str) (str sep) w (by
        intro j x hj
        refine hx j _ ?_
        unfold sts
        rw [List.getElem?_map] at hj ⊢
        cases hq : xs[j]? with
        | none => rw [hq] at hj; cases hj
        | some y => rw [hq] at hj; simp at hj; simp [hj]) hb (by rw [List.length_map]; omega) (by rw [List.length_map]; exact hc) (by rw [hm]; exact hlen)
      rw [hm, List.length_map] at h
      exact h
  clear hcells
  go_enter Tryd.func28, Tryd.ntmps28
  go_wp2_with fail
  refine (J.out).mono ?_
  rintro e w1 ⟨rfl, b1⟩
  go_wp2_with fail
  go_ret
  exact ⟨rfl, b1⟩
/-- A new slice of strings, joined. -/
theorem join_new (sep : List UInt8) (xs : List (List UInt8)) (cells : Array Value) (hcs : cells.toList = sts xs) (n : Nat) (hn : n = xs.length) (w : World) (hN : xs.length ≤ 1099511627776) (r : List UInt8) (hr : Lib.join xs sep = r) (hlen : r.length ≤ 140737488355328) :
    Calls Tryd.prog 28 #[.string (str sep), .slice (some ⟨w.heap.size, 0, none⟩) n n] (w.alloc (.cells cells 9)) fun e w' => e = .returned (.string (str r)) ∧ Below w.heap.size w w' := by
  subst hn
  subst hr
  refine (join_any sep xs (some ⟨w.heap.size, 0, none⟩) xs.length (w.alloc (.cells cells 9)) (Nat.le_refl _) hN hlen ?_).mono fun e w' ⟨he, hb⟩ => ⟨he, ((Below.refl _ _).alloc (Nat.le_refl _) _).trans (hb.mono (by simp))⟩
  intro _
  refine ⟨w.heap.size, 0, rfl, by simp, fun j x hj => ?_⟩
  rw [Nat.zero_add, World.cell?_alloc_new, ← hj, ← hcs]
  simp

/-! ### Quote -/
theorem hex_at (n : Nat) (h : n < 16) (e : Int) (he : e = n) (w : World) : Calls Tryd.prog 32 #[.int .u8 e] w fun e w' => e = .returned (.int .u8 ((hexD n).toNat : Int)) ∧ w = w' := by
  subst he
  exact hex_any n h w
theorem fquote_any (s : ByteArray) (hs : s.size ≤ 1099511627776) (w : World) : Calls Tryd.prog 13 #[.string s] w fun e w' => e = .returned (.string (str (quoteL s.data.toList))) ∧ Below w.heap.size w w' := by
  have P := Lib.hid (fun w => isPlain_any s hs w)
  cases h : plainB s.data.toList with
  | true =>
    have R := Lib.hid (show str (quoteL s.data.toList) = s by unfold quoteL; rw [if_pos h])
    rw [h] at P
    clear h
    go_enter Tryd.func13, Tryd.ntmps13
    go_wp2_with fail
    refine (P.out _).mono ?_
    rintro e w1 ⟨rfl, b1⟩
    go_wp2_with fail
    go_ret
    exact ⟨ret_sstr R.out.symm, b1⟩
  | false =>
    have hq : quoteL s.data.toList = 34 :: (inner s.data.toList ++ [34]) := by unfold quoteL; rw [h]; rfl
    have E := Lib.hid (fun w => escaped_any s hs w)
    have hi := inner_le s.data.toList
    rw [sz_list] at hi
    have J := Lib.hid (fun w => join_new [] [[34], inner s.data.toList, [34]] #[.string (str [34]), .string (str (inner s.data.toList)), .string (str [34])] rfl 3 rfl w (by simp) (quoteL s.data.toList) (by rw [join_flat, hq]; simp) (by rw [hq]; simp; omega))
    rw [h] at P
    clear h hq hi
    generalize quoteL s.data.toList = q at J ⊢
    generalize inner s.data.toList = i at J E
    go_enter Tryd.func13, Tryd.ntmps13
    go_wp2_with fail
    refine (P.out _).mono ?_
    rintro e w1 ⟨rfl, b1⟩
    go_wp2_with fail
    refine (rel (W := w) (E.out _) b1).mono ?_
    rintro e w2 ⟨rfl, b2⟩
    clear b1
    go_wp2_with fail
    refine (J.out w2).mono ?_
    rintro e w3 ⟨rfl, b3⟩
    go_wp2_with fail
    go_ret
    exact ⟨rfl, b2.trans (b3.mono b2.size)⟩
set_option maxHeartbeats 1000000 in
theorem rquote_any (s : ByteArray) (hs : s.size ≤ 1099511627776) (w : World) : Calls Tryd.prog 14 #[.string s] w fun e w' => e = .returned (.string (str (quoteL s.data.toList))) ∧ Below w.heap.size w w' := by
  have P := Lib.hid (fun w => plain_any s hs w)
  cases h : plainB s.data.toList with
  | true =>
    have R := Lib.hid (show str (quoteL s.data.toList) = s by unfold quoteL; rw [if_pos h])
    rw [h] at P
    clear h
    go_enter Tryd.func14, Tryd.ntmps14
    go_wp2_with fail
    refine (P.out _).mono ?_
    rintro e w1 ⟨rfl, b1⟩
    go_wp2_with fail
    go_ret
    exact ⟨ret_sstr R.out.symm, b1⟩
  | false =>
    have HQ := Lib.hid (show quoteL s.data.toList = 34 :: inner s.data.toList ++ [34] by unfold quoteL; rw [h]; rfl)
    rw [h] at P
    clear h
    go_enter Tryd.func14, Tryd.ntmps14
    go_wp2_with fail
    refine (P.out _).mono ?_
    rintro e w1 ⟨rfl, b1⟩
    go_wp2_with fail
    have hb1 := b1.size
    go_loopw [3, 4] (fun v i wr => ∃ k : Nat, i = .int .i64 k ∧ k ≤ s.size ∧ OwnB wr w.heap.size v (34 :: inner (s.data.toList.take k)) ∧ Below w.heap.size w wr) (fun _ i _ => s.size - (intOf i).toNat)
    case atStart => exact ⟨0, rfl, Nat.zero_le _, OwnB.lit w1 _ hb1 _ [34] rfl 1 rfl (by simp), b1.alloc hb1 _⟩
    case round =>
      clear b1 hb1
      obtain ⟨k, rfl, hle, hown, hb⟩ := hrel
      have hlen := inner_take_le s.data.toList k
      rw [sz_list] at hlen
      have hz := hb.size
      by_cases hp : k < s.size
      · obtain ⟨c, hc⟩ := get_at' s k hp
        have k1 := fun W => at_run s k c hc k rfl W
        have hcb := c.toNat_lt
        have E := inner_take _ k c hc
        have HO := Lib.hid hown
        have HB := Lib.hid hb
        clear hown hb
        cases hctl : ctl c with
        | true =>
          have hcc := (ctl_iff c).1 hctl
          rw [esc_ctl_is c hctl] at E
          have EE := Lib.hid (show 34 :: inner (s.data.toList.take (k + 1)) = (34 :: inner (s.data.toList.take k)) ++ [92, 120, hexD (c.toNat / 16), hexD (c.toNat % 16)] by rw [E]; rfl)
          have C := Lib.hid (fun w => control_yes (c.toNat : Int) (by omega) w)
          have d1 := Lib.hid (fun w => hex_at (c.toNat / 16) (by omega) ((c.toNat : Int) / 16) (by omega) w)
          have d2 := Lib.hid (fun w => hex_at (c.toNat % 16) (by omega) ((c.toNat : Int) % 16) (by omega) w)
          have u1 := u8_quo c
          have u2 := u8_rem c
          clear E hc hctl hcc
          go_wp2_with fail
          refine (C.out _).mono ?_
          rintro e w' ⟨rfl, rfl⟩
          go_wp2_with fail
          go_region_law (first | (refine step_bytes _ rfl _ _ rfl w.heap.size _ _ [92, 120, hexD (c.toNat / 16), hexD (c.toNat % 16)] rfl (OwnB.alloc HO.out _) wr.heap.size _ (heap_alloc_new _ _) rfl rfl (by simp; omega) (by simp; omega) ?_; intro v1 w1 own1 b1) | (go_simp; go_at_call 32; with_reducible refine (d1.out _).mono ?_; rintro e w' ⟨rfl, rfl⟩) | (go_simp; go_at_call 32; with_reducible refine (d2.out _).mono ?_; rintro e w' ⟨rfl, rfl⟩))
          all_goals
            go_wp2_with fail
            go_roundw
            case rel => exact ⟨k + 1, by go_num, by omega, by rw [EE.out]; exact own1, ((HB.out.drew).alloc hz _).trans b1⟩
            case measure => simp [intOf]; omega
        | false =>
          have hcc : ¬ (c.toNat < 32 ∨ c.toNat = 127) := fun h => by rw [(ctl_iff c).2 h] at hctl; cases hctl
          have C := Lib.hid (fun w => control_no (c.toNat : Int) (by omega) (by omega) w)
          by_cases h2 : c = 34 ∨ c = 92
          · rw [esc_sign_is c hctl h2] at E
            have EE := Lib.hid (show 34 :: inner (s.data.toList.take (k + 1)) = (34 :: inner (s.data.toList.take k)) ++ [92] ++ [c] by rw [E]; simp)
            clear E hc hctl hcc
            have hq : ((c.toNat : Int) == 34) = true ∨ (((c.toNat : Int) == 34) = false ∧ ((c.toNat : Int) == 92) = true) := by
              rcases h2 with rfl | rfl
              · exact Or.inl rfl
              · exact Or.inr ⟨rfl, rfl⟩
            clear h2
            rcases hq with q1 | ⟨q1, q2⟩
            all_goals
              go_wp2_with fail
              refine (C.out _).mono ?_
              rintro e w' ⟨rfl, rfl⟩
              go_wp2_with (first | (at_builtin; refine app_bytes _ rfl (.tmp 42) (.tmp 43) rfl w.heap.size _ _ [92] rfl (OwnB.alloc HO.out _) wr.heap.size _ (heap_alloc_new _ _) rfl rfl (by simp; omega) (by simp; omega) ?_; intro v1 w1 own1 b1; have HO1 := Lib.hid own1; have HB1 := Lib.hid ((HB.out.alloc hz _).trans b1); clear own1 b1) | (at_builtin; refine app_bytes _ rfl (.tmp 45) (.tmp 49) rfl w.heap.size _ _ [c] rfl (OwnB.alloc HO1.out _) w1.heap.size _ (heap_alloc_new _ _) rfl rfl (by have := HB1.out.size; simp; omega) (by simp; omega) ?_; intro v2 w2 own2 b2))
              go_roundw
              case rel => exact ⟨k + 1, by go_num, by omega, by rw [EE.out]; exact own2, (HB1.out.alloc HB1.out.size _).trans b2⟩
              case measure => simp [intOf]; omega
          · rw [esc_else_is c hctl (fun e => h2 (Or.inl e)) (fun e => h2 (Or.inr e))] at E
            have EE := Lib.hid (show 34 :: inner (s.data.toList.take (k + 1)) = (34 :: inner (s.data.toList.take k)) ++ [c] by rw [E]; rfl)
            have q1 : ((c.toNat : Int) == 34) = false := beq_false (fun e => h2 (Or.inl (UInt8.toNat_inj.1 (show c.toNat = 34 by omega))))
            have q2 : ((c.toNat : Int) == 92) = false := beq_false (fun e => h2 (Or.inr (UInt8.toNat_inj.1 (show c.toNat = 92 by omega))))
            clear E hc hctl hcc h2
            go_wp2_with fail
            refine (C.out _).mono ?_
            rintro e w' ⟨rfl, rfl⟩
            go_wp2_with (at_builtin; refine app_bytes _ rfl _ _ rfl w.heap.size _ _ [c] rfl (OwnB.alloc HO.out _) wr.heap.size _ (heap_alloc_new _ _) rfl rfl (by simp; omega) (by simp; omega) ?_; intro v1 w1 own1 b1)
            go_roundw
            case rel => exact ⟨k + 1, by go_num, by omega, by rw [EE.out]; exact own1, (HB.out.alloc hz _).trans b1⟩
            case measure => simp [intOf]; omega
      · have EE : s.data.toList.take k = s.data.toList := List.take_of_length_le (by rw [sz_list]; omega)
        rw [EE] at hown
        have hlen2 := inner_le s.data.toList
        rw [sz_list] at hlen2
        have HO := Lib.hid hown
        have HB := Lib.hid hb
        clear hb hown EE hlen
        go_wp2_with (at_builtin; refine app_bytes _ rfl _ _ rfl w.heap.size _ _ [34] rfl (OwnB.alloc HO.out _) wr.heap.size _ (heap_alloc_new _ _) rfl rfl (by simp; omega) (by simp; omega) ?_; intro v1 w1 own1 b1; have cv := own_conv own1; rw [← HQ.out] at cv; have HB1 := Lib.hid ((HB.out.alloc hz _).trans b1); clear b1 own1)
        go_ret
        exact ⟨rfl, HB1.out⟩
end Go.Proofs.YtpdekihfgglmkaaDoor
