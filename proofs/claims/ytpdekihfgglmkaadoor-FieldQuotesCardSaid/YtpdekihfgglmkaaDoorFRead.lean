/-
  The functions of package field and of its reference that read forms: what each call answers; nothing that existed before the call has changed behind it. Condition: a string of at most 2^38 bytes.
-/
import Derived.Test.YtpdekihfgglmkaaDoorFQuote
import Derived.Test.YtpdekihfgglmkaaDoorCut
namespace Go.Proofs.YtpdekihfgglmkaaDoor
open Go.RowKit

/-! ### valueOf -/
theorem digV_wrap (c : UInt8) : IntKind.u8.wrap (Lib.indexByte [48, 49, 50, 51, 52, 53, 54, 55, 56, 57, 97, 98, 99, 100, 101, 102] c) = (digV c : Int) := by
  unfold digV
  generalize Lib.indexByte [48, 49, 50, 51, 52, 53, 54, 55, 56, 57, 97, 98, 99, 100, 101, 102] c = x
  simp only [IntKind.wrap, IntKind.signed, IntKind.bits]
  simp
  omega
theorem valueOf_any (c : UInt8) (w : World) : Calls Tryd.prog 43 #[.int .u8 ((c.toNat : Nat) : Int)] w fun e w' => e = .returned (.int .u8 ((digV c : Nat) : Int)) ∧ w = w' := by
  have h := fun w => Tryd.strings_IndexByte ⟨#[48, 49, 50, 51, 52, 53, 54, 55, 56, 57, 97, 98, 99, 100, 101, 102]⟩ (c.toNat : Int) w
  have e : (c.toNat : Int).toNat.toUInt8 = c := by simp
  rw [e] at h
  have D := Lib.hid (digV_wrap c)
  have hx : ∀ w, Calls Tryd.prog 53 #[.string ⟨#[48, 49, 50, 51, 52, 53, 54, 55, 56, 57, 97, 98, 99, 100, 101, 102]⟩, .int .u8 (c.toNat : Int)] w fun e w' => e = .returned (.int .i64 (Lib.indexByte [48, 49, 50, 51, 52, 53, 54, 55, 56, 57, 97, 98, 99, 100, 101, 102] c)) ∧ w = w' := fun w => (h w).mono fun _ _ ⟨h1, h2⟩ => ⟨h1, h2.symm⟩
  have H := Lib.hid hx
  clear h hx e
  generalize Lib.indexByte [48, 49, 50, 51, 52, 53, 54, 55, 56, 57, 97, 98, 99, 100, 101, 102] c = x at *
  go_enter Tryd.func43, Tryd.ntmps43
  go_wp2_with fail
  refine (H.out _).mono ?_
  rintro e w' ⟨rfl, rfl⟩
  go_wp2_with fail
  go_ret
  exact ⟨ret_int D.out, rfl⟩

/-! ### unescaped -/
theorem parted (l : List UInt8) (c : UInt8) (h : c ∈ l) : ∃ p q, l = p ++ c :: q ∧ c ∉ p := by
  induction l with
  | nil => cases h
  | cons b l ih =>
    by_cases hb : b = c
    · exact ⟨[], l, by rw [hb]; rfl, by simp⟩
    · have hm : c ∈ l := by
        rcases List.mem_cons.1 h with h | h
        · exact absurd h.symm hb
        · exact h
      obtain ⟨p, q, e, hn⟩ := ih hm
      exact ⟨b :: p, q, by rw [e]; rfl, by intro hx; rcases List.mem_cons.1 hx with hx | hx; exact hb hx.symm; exact hn hx⟩
theorem cutS_hit (s p q : ByteArray) (c : UInt8) (h : s.data.toList = p.data.toList ++ c :: q.data.toList) (hn : c ∉ p.data.toList) (hs : s.size ≤ 9223372036854775807) (w : World) :
    Calls Tryd.prog 42 #[.string s, .string ⟨#[c]⟩] w fun e w' => e = .returned (.tuple #[.string p, .string q, .bool true]) ∧ Below w.heap.size w w' := by
  have h1 := cut_hit c p.data.toList q.data.toList hn (by rw [← h, sz_list]; exact hs) w
  rw [← h, str_list, str_list, str_list] at h1
  exact h1
theorem cutS_miss (s : ByteArray) (c : UInt8) (hn : c ∉ s.data.toList) (w : World) :
    Calls Tryd.prog 42 #[.string s, .string ⟨#[c]⟩] w fun e w' => e = .returned (.tuple #[.string s, .string (str []), .bool false]) ∧ Below w.heap.size w w' := by
  have h1 := cut_miss c s.data.toList hn w
  rw [str_list] at h1
  exact h1
theorem byte_sum (X Y : Nat) : IntKind.u8.wrap (IntKind.u8.wrap ((X : Int) * 16) + (Y : Int)) = ((UInt8.ofNat (X * 16 + Y)).toNat : Int) := by
  rw [UInt8.toNat_ofNat']
  simp only [IntKind.wrap, IntKind.signed, IntKind.bits]
  simp
theorem byte_sum' (X Y : Nat) : ((X : Int) * 16 + (Y : Int)) % 256 = ((UInt8.ofNat (X * 16 + Y)).toNat : Int) := by
  rw [UInt8.toNat_ofNat']
  omega
theorem own_put {w0 w w' : World} {v : Value} {l : List UInt8} (hb0 : Below w0.heap.size w0 w) (h : OwnB w w0.heap.size v l) (hb : Below w.heap.size w w') : OwnB w' w0.heap.size v l ∧ Below w0.heap.size w0 w' := ⟨h.below hb, hb0.trans (hb.mono hb0.size)⟩
set_option maxHeartbeats 2000000 in
theorem unescaped_any (s : ByteArray) (hs : s.size ≤ 1099511627776) (w : World) : Calls Tryd.prog 33 #[.string s] w fun e w' => e = .returned (.string (str (cutQ s.data.toList))) ∧ Below w.heap.size w w' := by
  go_enter Tryd.func33, Tryd.ntmps33
  go_wp2_with fail
  go_loopw [0, 3] (fun t v wr => ∃ (r : ByteArray) (out : List UInt8), t = .string r ∧ OwnB wr w.heap.size v out ∧ out.length + r.size ≤ s.size ∧ Hid (out ++ cutQ r.data.toList = cutQ s.data.toList) ∧ Below w.heap.size w wr) (fun t _ _ => szOf t)
  case atStart => exact ⟨s, [], rfl, OwnB.nil _ _, by simp, Lib.hid rfl, Below.refl _ _⟩
  case round =>
    obtain ⟨r, out, rfl, hown, hlen, hq, hb⟩ := hrel
    have hz := hb.size
    by_cases hm : (92 : UInt8) ∈ r.data.toList
    · obtain ⟨p, q, hpq, hn⟩ := parted _ _ hm
      obtain ⟨sp, hsp, hspz, -⟩ := as_str p
      obtain ⟨sq, hsq, hsqz, -⟩ := as_str q
      have hrz := congrArg List.length hpq
      rw [sz_list, List.length_append, List.length_cons] at hrz
      have C := Lib.hid (fun w => cutS_hit r sp sq 92 (by rw [hsp, hsq, hpq]) (by rw [hsp]; exact hn) (by omega) w)
      have hq1 := hq.out
      rw [hpq, cutQ_pre p _ hn] at hq1
      have HO := Lib.hid hown
      have HB := Lib.hid hb
      have HP := Lib.hid hsp
      have HSQ := Lib.hid hsq
      have Z := Lib.hid (And.intro hspz (And.intro hsqz hrz))
      clear hown hb hm hpq hn hq hsp hspz hsqz hrz hsq
      cases q with
      | nil =>
        have he : sq.toList.isEmpty = true := by rw [nil_iff]; have := Z.out.2.1; simp at this; simpa using this
        rw [cutQ_end, List.append_nil] at hq1
        have HQ := Lib.hid hq1
        clear hq1
        go_wp2_with (first | (go_at_call 42; refine (C.out _).mono ?_; rintro e w1 ⟨rfl, b1⟩; obtain ⟨o1, B1⟩ := own_put HB.out HO.out b1; have O1 := Lib.hid o1; have BB1 := Lib.hid B1; clear b1 o1 B1) | (at_builtin; refine app_string w1 rfl _ _ rfl w.heap.size _ _ sp rfl O1.out rfl BB1.out.size (by have := Z.out; omega) ?_; intro v2 w2 own2 b2; rw [HP.out, HQ.out] at own2; have cv := own_conv own2; have BB2 := Lib.hid (BB1.out.trans b2); clear b2 own2))
        go_ret
        exact ⟨rfl, BB2.out⟩
      | cons d q =>
        have hqz : sq.size = q.length + 1 := by have := Z.out.2.1; simpa using this
        have he : sq.toList.isEmpty = false := by rw [nil_iff]; simp; intro h; rw [h] at hqz; simp at hqz
        have k0 := fun W => at_run sq 0 d (by rw [HSQ.out]; rfl) 0 rfl W
        have q1s : 1 ≤ sq.size := by omega
        have hlo : 1 ≤ (sq.size : Int) := by omega
        by_cases hx : d = 120 ∧ 2 ≤ q.length
        · obtain ⟨rfl, h2⟩ := hx
          match q, h2 with
          | x :: y :: z, _ =>
            obtain ⟨st, hst, hstz, -⟩ := as_str z
            rw [cutQ_hex] at hq1
            have k1 := fun W => at_run sq 1 x (by rw [HSQ.out]; rfl) 1 rfl W
            have k2 := fun W => at_run sq 2 y (by rw [HSQ.out]; rfl) 2 rfl W
            have k3 := fun W => sl_from sq st 3 (by rw [hqz]; simp) (by rw [HSQ.out, hst]; rfl) 3 rfl W
            have U := byte_sum' (digV x) (digV y)
            have V1 := Lib.hid (fun w => valueOf_any x w)
            have V2 := Lib.hid (fun w => valueOf_any y w)
            have dx := digV_lt x
            have dy := digV_lt y
            have g3 : 3 ≤ (sq.size : Int) := by simp at hqz; omega
            have q120 : (((120 : UInt8).toNat : Int) == 120) = true := rfl
            generalize UInt8.ofNat (digV x * 16 + digV y) = b at U hq1
            have HQ := Lib.hid (show out ++ sp.data.toList ++ [b] ++ cutQ st.data.toList = cutQ s.data.toList by rw [HP.out, hst, ← hq1]; simp)
            have HZ := Lib.hid (show st.size + 4 + sp.size ≤ r.size by have := Z.out; simp at hqz; simp at this; omega)
            clear hq1 hst hstz hqz q1s
            go_wp2_with (first | (go_at_call 42; refine (C.out _).mono ?_; rintro e w1 ⟨rfl, b1⟩; obtain ⟨o1, B1⟩ := own_put HB.out HO.out b1; have O1 := Lib.hid o1; have BB1 := Lib.hid B1; clear b1 o1 B1) | (at_builtin; refine app_string w1 rfl _ _ rfl w.heap.size _ _ sp rfl O1.out rfl BB1.out.size (by have := Z.out; omega) ?_; intro v2 w2 own2 b2; have O2 := Lib.hid own2; have BB2 := Lib.hid (BB1.out.trans b2); clear b2 own2))
            go_quiet (first | (go_at_call 43; exact Calls.quiet_of_same ((V1.out _).mono fun _ _ ⟨h1, h2⟩ => ⟨h1, h2.symm⟩)) | (go_at_call 43; exact Calls.quiet_of_same ((V2.out _).mono fun _ _ ⟨h1, h2⟩ => ⟨h1, h2.symm⟩)))
            have b3 := below_drewN (Below.refl w2.heap.size w2) nq
            generalize w2.drewN nq = w3 at b3 ⊢
            obtain ⟨o3, B3⟩ := own_put BB2.out O2.out b3
            have O3 := Lib.hid o3
            have BB3 := Lib.hid B3
            clear b3 o3 B3
            go_wp2_with (at_builtin; refine app_bytes _ rfl _ _ rfl w.heap.size _ _ [b] rfl (OwnB.alloc O3.out _) w3.heap.size _ (heap_alloc_new _ _) rfl rfl (by have := BB3.out.size; simp; omega) (by have := HZ.out; simp; omega) ?_; intro v4 w4 own4 b4)
            go_roundw
            case rel => exact ⟨st, _, rfl, own4, by have := HZ.out; simp; omega, HQ, (BB3.out.alloc BB3.out.size _).trans b4⟩
            case measure => have := HZ.out; simp [szOf]; omega
        · obtain ⟨st, hst, hstz, -⟩ := as_str q
          have hd : d ≠ 120 ∨ q.length < 2 := by
            by_cases h : d = 120
            · exact Or.inr (by rcases Nat.lt_or_ge q.length 2 with h2 | h2; exact h2; exact absurd ⟨h, h2⟩ hx)
            · exact Or.inl h
          rw [cutQ_sign d q hd] at hq1
          have k3 := fun W => sl_from sq st 1 (by rw [hqz]; simp) (by rw [HSQ.out, hst]; rfl) 1 rfl W
          have HQ := Lib.hid (show out ++ sp.data.toList ++ [d] ++ cutQ st.data.toList = cutQ s.data.toList by rw [HP.out, hst, ← hq1]; simp)
          have HZ := Lib.hid (show st.size + 2 + sp.size ≤ r.size by have := Z.out; simp at this; omega)
          have hg : ((d.toNat : Int) == 120) = false ∨ (((d.toNat : Int) == 120) = true ∧ decide (3 ≤ (sq.size : Int)) = false) := by
            by_cases h : d = 120
            · refine Or.inr ⟨by rw [h]; rfl, ?_⟩
              rcases hd with hd | hd
              · exact absurd h hd
              · simp; omega
            · exact Or.inl (beq_false (fun e => h (UInt8.toNat_inj.1 (show d.toNat = 120 by omega))))
          clear hq1 hst hstz hqz q1s hx hd
          rcases hg with g1 | ⟨g1, g2⟩
          all_goals
            go_wp2_with (first | (go_at_call 42; refine (C.out _).mono ?_; rintro e w1 ⟨rfl, b1⟩; obtain ⟨o1, B1⟩ := own_put HB.out HO.out b1; have O1 := Lib.hid o1; have BB1 := Lib.hid B1; clear b1 o1 B1) | (at_builtin; refine app_string w1 rfl (.tmp 15) (.tmp 16) rfl w.heap.size _ _ sp rfl O1.out rfl BB1.out.size (by have := Z.out; omega) ?_; intro v2 w2 own2 b2; have O2 := Lib.hid own2; have BB2 := Lib.hid (BB1.out.trans b2); clear b2 own2) | (at_builtin; refine app_bytes _ rfl (.tmp 43) (.tmp 45) rfl w.heap.size _ _ [d] rfl (OwnB.alloc O2.out _) w2.heap.size _ (heap_alloc_new _ _) rfl rfl (by have := BB2.out.size; simp; omega) (by have := HZ.out; simp; omega) ?_; intro v4 w4 own4 b4))
            go_roundw
            case rel => exact ⟨st, _, rfl, own4, by have := HZ.out; simp; omega, HQ, (BB2.out.alloc BB2.out.size _).trans b4⟩
            case measure => have := HZ.out; simp [szOf]; omega
    · have C := Lib.hid (fun w => cutS_miss r 92 hm w)
      have hq1 := hq.out
      have h0 := cutQ_pre r.data.toList [] hm
      rw [List.append_nil, cutQ_nil, List.append_nil] at h0
      rw [h0] at hq1
      have HQ := Lib.hid hq1
      have HO := Lib.hid hown
      have HB := Lib.hid hb
      clear hown hb hm hq hq1 h0
      go_wp2_with (first | (go_at_call 42; refine (C.out _).mono ?_; rintro e w1 ⟨rfl, b1⟩; obtain ⟨o1, B1⟩ := own_put HB.out HO.out b1; have O1 := Lib.hid o1; have BB1 := Lib.hid B1; clear b1 o1 B1) | (at_builtin; refine app_string w1 rfl _ _ rfl w.heap.size _ _ r rfl O1.out rfl BB1.out.size (by omega) ?_; intro v2 w2 own2 b2; rw [HQ.out] at own2; have cv := own_conv own2; have BB2 := Lib.hid (BB1.out.trans b2); clear b2 own2))
      go_ret
      exact ⟨rfl, BB2.out⟩
end Go.Proofs.YtpdekihfgglmkaaDoor
