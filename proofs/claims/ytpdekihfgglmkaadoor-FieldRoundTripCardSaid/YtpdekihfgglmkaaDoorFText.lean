/-
  Text of package field and of its reference: what each call answers; nothing that existed before the call has changed behind it. Condition: at most 1000 strings of at most 2^14 bytes each.
-/
import Derived.Test.YtpdekihfgglmkaaDoorFLines
import Derived.Deep.LoopGhost
namespace Go.Proofs.YtpdekihfgglmkaaDoor
open Go.RowKit

/-- A line with a line feed in it. -/
def fed (x : List UInt8) : Bool := decide ((10 : UInt8) ∈ x)
/-- What Text answers: the text and the number of the error. -/
def textR (l : List (List UInt8)) : List UInt8 × Int := if l.any fed then ([], 3) else if 65536 < (textL l).length then ([], 5) else (textL l, 0)
theorem any_fed (l : List (List UInt8)) (k : Nat) (x : List UInt8) (h : l[k]? = some x) (hf : fed x = true) : l.any fed = true := by
  rw [List.any_eq_true]
  exact ⟨x, List.mem_iff_getElem?.2 ⟨k, h⟩, hf⟩
theorem none_fed (l : List (List UInt8)) (h : ∀ (j : Nat) x, j < l.length → l[j]? = some x → fed x = false) : l.any fed = false := by
  cases ha : l.any fed with
  | false => rfl
  | true =>
    rw [List.any_eq_true] at ha
    obtain ⟨x, hm, hx⟩ := ha
    obtain ⟨j, hj⟩ := List.mem_iff_getElem?.1 hm
    rw [h j x (List.getElem?_eq_some_iff.1 hj).1 hj] at hx
    cases hx
theorem contains_feed (s : ByteArray) (w : World) : Calls Tryd.prog 39 #[.string s, .string ⟨#[10]⟩] w fun e w' => e = .returned (.bool (fed s.data.toList)) ∧ w = w' := by
  refine (Tryd.strings_Contains_one s 10 w).mono fun e w' ⟨he, hw⟩ => ⟨?_, hw.symm⟩
  rw [he]
  have : decide (0 ≤ Lib.indexByte s.data.toList 10) = fed s.data.toList := by
    unfold fed
    by_cases h : (10 : UInt8) ∈ s.data.toList
    · obtain ⟨p, q, e, hn⟩ := parted _ _ h
      rw [e, index_hit 10 q p hn]
      simp
    · rw [index_miss 10 _ h]
      simp [h]
  rw [this]
theorem text_le (B : Nat) : ∀ (l : List (List UInt8)), (∀ x ∈ l, x.length ≤ B) → (textL l).length ≤ l.length * (B + 1)
  | [], _ => by simp [textL]
  | x :: l, h => by
    have ih := text_le B l (fun y hy => h y (by simp [hy]))
    have e : textL (x :: l) = x ++ 10 :: textL l := by simp [textL]
    have := h x (by simp)
    rw [e, List.length_append, List.length_cons, List.length_cons, Nat.succ_mul]
    omega
set_option maxHeartbeats 2000000 in
theorem ftext_any (v : Value) (l : List (List UInt8)) (hn : l.length ≤ 1000) (hx : ∀ x ∈ l, x.length ≤ 16384) (w : World) (h : Lst w v l) : Calls Tryd.prog 25 #[v] w fun e w' => e = .returned (.tuple #[.string (str (textR l).1), .int .i64 (textR l).2]) ∧ Below w.heap.size w w' := by
  have hL := h
  obtain ⟨A, c, rfl, hcap, hcl⟩ := h
  have HT := Lib.hid (fun k => text_le 16384 (l.take k) (fun x hm => hx x (List.mem_of_mem_take hm)))
  have HC := Lib.hid hcl
  have HX := Lib.hid hx
  have HCAP := Lib.hid hcap
  clear hcl hx hL hcap
  go_enter Tryd.func25, Tryd.ntmps25
  go_wp2_with fail
  go_loop [4, 9] (fun n i => ∃ k : Nat, i = .int .i64 k ∧ k ≤ l.length ∧ n = .int .i64 ((textL (l.take k)).length : Int) ∧ Hid (∀ (j : Nat) x, j < k → l[j]? = some x → fed x = false)) (fun _ i => l.length - (intOf i).toNat)
  case atStart => exact ⟨0, rfl, Nat.zero_le _, rfl, Lib.hid (fun j x hj => absurd hj (Nat.not_lt_zero _))⟩
  case round =>
    obtain ⟨k, rfl, hk, rfl, hall⟩ := hrel
    have htl := HT.out k
    have htk : (l.take k).length ≤ 1000 := by rw [List.length_take]; omega
    have htl2 : (textL (l.take k)).length ≤ 1000 * 16385 := Nat.le_trans htl (Nat.mul_le_mul_right _ htk)
    by_cases hlt : k < l.length
    · obtain ⟨b, o, rfl, hbl, hcell⟩ := HC.out (by omega)
      obtain ⟨x, hxk⟩ := at_lt hlt
      have hxl := HX.out x (List.mem_iff_getElem?.2 ⟨k, hxk⟩)
      have m1 := hcell k _ (sts_at l k x hxk)
      obtain ⟨s, hs, hsz, hst⟩ := as_str x
      rw [hst] at m1
      have C := Lib.hid (fun w => contains_feed s w)
      rw [hs] at C
      have gk : (k : Int) < (l.length : Int) := by omega
      cases hf : fed x with
      | true =>
        rw [hf] at C
        have R := Lib.hid (show textR l = ([], 3) by unfold textR; rw [any_fed l k x hxk hf]; rfl)
        clear hcell hxk hs hsz hst hf hall htl htk hxl
        go_wp2_with fail
        refine (C.out _).mono ?_
        rintro e w' ⟨rfl, rfl⟩
        go_wp2_with fail
        go_ret2
        exact ⟨ret_unq (by rw [R.out]) (by rw [R.out]), Below.refl _ _⟩
      | false =>
        rw [hf] at C
        have hT := text_take l k x hxk
        have T := Lib.hid (show ((textL (l.take (k + 1))).length : Int) = (textL (l.take k)).length + ((s.size : Int) + 1) by rw [hT]; simp; omega)
        have hall2 : Hid (∀ (j : Nat) y, j < k + 1 → l[j]? = some y → fed y = false) := by
          intro j y hj hy
          by_cases hjk : j < k
          · exact hall.out j y hjk hy
          · obtain rfl : j = k := by omega
            rw [hxk] at hy
            obtain rfl := Option.some.inj hy
            exact hf
        have hs16 : s.size ≤ 16384 := by omega
        clear hcell hxk hs hsz hst hf hall htl htk hT hxl
        go_wp2_with fail
        refine (C.out _).mono ?_
        rintro e w' ⟨rfl, rfl⟩
        go_wp2_with fail
        go_round
        case rel => exact ⟨k + 1, by go_num, by omega, by rw [T.out], hall2⟩
        case measure => simp [intOf]; omega
    · have e0 : l.take k = l := List.take_of_length_le (by omega)
      have hnf := none_fed l (fun j x hj => hall.out j x (by omega))
      have d : decide (k < l.length) = false := by rw [decide_eq_false_iff_not]; exact hlt
      rw [e0] at htl2
      rw [e0]
      have R := Lib.hid (show textR l = if 65536 < (textL l).length then ([], 5) else (textL l, 0) by unfold textR; rw [hnf]; rfl)
      by_cases h6 : 65536 < (textL l).length
      · have R2 := Lib.hid (show textR l = ([], 5) by rw [R.out, if_pos h6])
        have g6 : (65536 : Int) < ((textL l).length : Int) := by omega
        clear e0 hnf hall htl htk hlt R h6
        go_wp2_with fail
        go_ret2
        exact ⟨ret_unq (by rw [R2.out]) (by rw [R2.out]), Below.refl _ _⟩
      have R2 := Lib.hid (show textR l = (textL l, 0) by rw [R.out, if_neg h6])
      have g6 : decide ((65536 : Int) < ((textL l).length : Int)) = false := by simp; omega
      by_cases h0 : (textL l).length = 0
      · have hnil := text_nil l h0
        have R3 := Lib.hid (show textR l = ([], 0) by rw [R2.out, List.length_eq_zero_iff.1 h0])
        have q0 : (((textL l).length : Int) == 0) = true := beq_true (by omega)
        have q0' : ((textL l).length == 0) = true := by rw [beq_iff_eq]; exact h0
        have q0'' : textL l = [] := List.length_eq_zero_iff.1 h0
        clear e0 hnf hall htl htk hlt R R2 h6 h0 hnil q0''
        go_wp2_with fail
        go_ret2
        exact ⟨ret_unq (by rw [R3.out]) (by rw [R3.out]), Below.refl _ _⟩
      have q0 : (((textL l).length : Int) == 0) = false := beq_false (by omega)
      have q0' : ((textL l).length == 0) = false := by rw [beq_eq_false_iff_ne]; exact h0
      have hne : l ≠ [] := by intro e; rw [e] at h0; exact h0 rfl
      have hne2 : ¬ textL l = [] := by intro e; rw [e] at h0; exact h0 rfl
      have hTJ := text_join l hne
      have hjl : (Lib.join l [10]).length + 1 = (textL l).length := by rw [← hTJ]; simp
      have J1 := Lib.hid (join_any [10] l A c w HCAP.out (by omega) (by omega) HC.out)
      obtain ⟨q, hq, hqz, hqs⟩ := as_str (Lib.join l [10])
      rw [hqs] at J1
      have J2 := Lib.hid (fun w => join_new [] [q.data.toList, [10]] #[.string q, .string (str [10])] (by show [Value.string q, Value.string (str [10])] = [Value.string (str q.data.toList), Value.string (str [10])]; rw [str_list]) 2 rfl w (by simp) (textL l) (by rw [join_flat, hq, ← hTJ]; simp) (by omega))
      obtain ⟨t, ht, htz, hts⟩ := as_str (textL l)
      rw [hts] at J2
      have HTS := Lib.hid hts
      clear e0 hnf hall htl htk hlt R h6 h0 hne hTJ hjl hq hqz hqs ht htz hts
      go_wp2_with fail
      refine (J1.out).mono ?_
      rintro e w1 ⟨rfl, b1⟩
      go_wp2_with fail
      refine (J2.out w1).mono ?_
      rintro e w2 ⟨rfl, b2⟩
      go_wp2_with fail
      go_ret2
      exact ⟨ret_unq (by rw [R2.out]; exact HTS.out.symm) (by rw [R2.out]), b1.trans (b2.mono b1.size)⟩
theorem fed_first (x : List UInt8) (h : fed x = true) : ∃ p : Nat, x[p]? = some 10 ∧ ∀ (j : Nat) c, j < p → x[j]? = some c → c ≠ 10 := by
  unfold fed at h
  obtain ⟨a, b, e, hn⟩ := parted x 10 (of_decide_eq_true h)
  refine ⟨a.length, by rw [e]; simp, fun j c hj hc he => ?_⟩
  subst he
  rw [e, List.getElem?_append_left hj] at hc
  exact hn (List.mem_iff_getElem?.2 ⟨j, hc⟩)
theorem fed_none (x : List UInt8) (h : fed x = false) (j : Nat) (c : UInt8) (hc : x[j]? = some c) : c ≠ 10 := by
  unfold fed at h
  intro e
  subst e
  exact of_decide_eq_false h (List.mem_iff_getElem?.2 ⟨j, hc⟩)
set_option maxHeartbeats 4000000 in
theorem rtext_any (v : Value) (l : List (List UInt8)) (hn : l.length ≤ 1000) (hx : ∀ x ∈ l, x.length ≤ 16384) (w : World) (h : Lst w v l) : Calls Tryd.prog 26 #[v] w fun e w' => e = .returned (.tuple #[.string (str (textR l).1), .int .i64 (textR l).2]) ∧ Below w.heap.size w w' := by
  obtain ⟨A, c, rfl, _, hcl⟩ := h
  have HT := Lib.hid (fun k => text_le 16384 (l.take k) (fun x hm => hx x (List.mem_of_mem_take hm)))
  have HC := Lib.hid hcl
  have HX := Lib.hid hx
  clear hcl hx
  go_enter Tryd.func26, Tryd.ntmps26
  go_wp2_with fail
  go_loopw [4, 5] (fun u i wr => ∃ k : Nat, i = .int .i64 k ∧ k ≤ l.length ∧ OwnB wr w.heap.size u (textL (l.take k)) ∧ Hid (∀ (j : Nat) x, j < k → l[j]? = some x → fed x = false) ∧ Below w.heap.size w wr) (fun _ i _ => l.length - (intOf i).toNat)
  case atStart => exact ⟨0, rfl, Nat.zero_le _, OwnB.nil _ _, Lib.hid (fun j x hj => absurd hj (Nat.not_lt_zero _)), Below.refl _ _⟩
  case round =>
    obtain ⟨k, rfl, hk, hown, hall, hb⟩ := hrel
    have hbs := hb.size
    have htl := HT.out k
    have htk : (l.take k).length ≤ 1000 := by rw [List.length_take]; omega
    have htl2 : (textL (l.take k)).length ≤ 1000 * 16385 := Nat.le_trans htl (Nat.mul_le_mul_right _ htk)
    have HO := Lib.hid hown
    have HB := Lib.hid hb
    by_cases hlt : k < l.length
    · obtain ⟨b, o, rfl, hbl, hcell⟩ := HC.out (by omega)
      obtain ⟨x, hxk⟩ := at_lt hlt
      have hxl := HX.out x (List.mem_iff_getElem?.2 ⟨k, hxk⟩)
      have m1 := (hb.cell (p := ⟨b, o + k, none⟩) hbl).trans (hcell k _ (sts_at l k x hxk))
      obtain ⟨s, hs, hsz, hst⟩ := as_str x
      rw [hst] at m1
      have gk : (k : Int) < (l.length : Int) := by omega
      have hs16 : s.size ≤ 16384 := by omega
      have HS := Lib.hid hs
      cases hf : fed x with
      | true =>
        have R := Lib.hid (show textR l = ([], 3) by unfold textR; rw [any_fed l k x hxk hf]; rfl)
        obtain ⟨p, hp, hpn⟩ := fed_first x hf
        have hps : p < s.size := by have := (List.getElem?_eq_some_iff.1 hp).1; omega
        have hps' : p ≤ 16384 := by omega
        have HP := Lib.hid hp
        have HPN := Lib.hid hpn
        clear hcell hxk hs hsz hst hf hall htl htk hxl hown hb hp hpn HC HX
        go_wp2_with fail
        go_loop [6] (fun j => ∃ m : Nat, j = .int .i64 m ∧ m ≤ p) (fun j => p - (intOf j).toNat)
        case atStart => exact ⟨0, rfl, Nat.zero_le _⟩
        case round =>
          obtain ⟨m, rfl, hm⟩ := hrel
          have gm : m < s.size := by omega
          obtain ⟨d, hd⟩ := get_at' s m gm
          have k1 := fun W => at_run s m d hd m rfl W
          by_cases hmp : m = p
          · have q1 : ((d.toNat : Int) == 10) = true := by
              have hd2 := HP.out
              rw [← HS.out, ← hmp, hd] at hd2
              rw [Option.some.inj hd2]
              rfl
            clear hmp hd
            go_wp2_with fail
            go_ret2
            exact ⟨ret_unq (by rw [R.out]) (by rw [R.out]), HB.out⟩
          · have q1 : ((d.toNat : Int) == 10) = false := byte_neq (d := 10) (HPN.out m d (by omega) (by rw [← HS.out]; exact hd))
            clear hd
            go_wp2_with fail
            go_round
            case rel => exact ⟨m + 1, by go_num, by omega⟩
            case measure => simp [intOf]; omega
      | false =>
        have hT := text_take l k x hxk
        have T := Lib.hid (show textL (l.take (k + 1)) = textL (l.take k) ++ s.data.toList ++ [10] by rw [hT, hs])
        have hall2 : Hid (∀ (j : Nat) y, j < k + 1 → l[j]? = some y → fed y = false) := by
          intro j y hj hy
          by_cases hjk : j < k
          · exact hall.out j y hjk hy
          · obtain rfl : j = k := by omega
            rw [hxk] at hy
            obtain rfl := Option.some.inj hy
            exact hf
        have HN := Lib.hid (fed_none x hf)
        clear hcell hxk hs hsz hst hf hall htl htk hxl hown hb hT HC HX
        go_wp2_with fail
        go_loop [6] (fun j => ∃ m : Nat, j = .int .i64 m ∧ m ≤ s.size) (fun j => s.size - (intOf j).toNat)
        case atStart => exact ⟨0, rfl, Nat.zero_le _⟩
        case round =>
          obtain ⟨m, rfl, hm⟩ := hrel
          by_cases gm : m < s.size
          · obtain ⟨d, hd⟩ := get_at' s m gm
            have k1 := fun W => at_run s m d hd m rfl W
            have q1 : ((d.toNat : Int) == 10) = false := byte_neq (d := 10) (HN.out m d (by rw [← HS.out]; exact hd))
            clear hd
            go_wp2_with fail
            go_round
            case rel => exact ⟨m + 1, by go_num, by omega⟩
            case measure => simp [intOf]; omega
          · have d1 : decide (m < s.size) = false := by rw [decide_eq_false_iff_not]; exact gm
            clear gm
            go_wp2_with (first | (at_builtin; refine app_string _ rfl (.tmp 29) (.tmp 33) rfl w.heap.size _ _ s rfl HO.out rfl hbs (by omega) ?_; intro v1 w1 own1 b1; have O1 := Lib.hid own1; have BB1 := Lib.hid (HB.out.trans b1); clear own1 b1) | (at_builtin; refine app_bytes _ rfl (.tmp 34) (.tmp 35) rfl w.heap.size _ _ [10] rfl (OwnB.alloc O1.out _) w1.heap.size _ (heap_alloc_new _ _) rfl rfl (by have := BB1.out.size; simp; omega) (by simp; omega) ?_; intro v2 w2 own2 b2))
            go_roundw
            case rel => exact ⟨k + 1, by go_num, by omega, by rw [T.out]; exact own2, hall2, (BB1.out.alloc BB1.out.size _).trans b2⟩
            case measure => simp [intOf]; omega
    · have e0 : l.take k = l := List.take_of_length_le (by omega)
      have hnf := none_fed l (fun j x hj => hall.out j x (by omega))
      have d : decide (k < l.length) = false := by rw [decide_eq_false_iff_not]; exact hlt
      rw [e0] at htl2 hown
      obtain ⟨A2, c2, rfl⟩ := own_shape' hown
      have cv := own_conv hown
      have R := Lib.hid (show textR l = if 65536 < (textL l).length then ([], 5) else (textL l, 0) by unfold textR; rw [hnf]; rfl)
      by_cases h6 : 65536 < (textL l).length
      · have R2 := Lib.hid (show textR l = ([], 5) by rw [R.out, if_pos h6])
        have g6 : (65536 : Int) < ((textL l).length : Int) := by omega
        clear e0 hnf hall htl htk hlt R h6 hown hb cv HO
        go_wp2_with fail
        go_ret2
        exact ⟨ret_unq (by rw [R2.out]) (by rw [R2.out]), HB.out⟩
      · have R2 := Lib.hid (show textR l = (textL l, 0) by rw [R.out, if_neg h6])
        have g6 : decide ((65536 : Int) < ((textL l).length : Int)) = false := by simp; omega
        clear e0 hnf hall htl htk hlt R h6 hown hb HO
        go_wp2_with fail
        go_ret2
        exact ⟨ret_unq (by rw [R2.out]) (by rw [R2.out]), HB.out⟩
end Go.Proofs.YtpdekihfgglmkaaDoor
