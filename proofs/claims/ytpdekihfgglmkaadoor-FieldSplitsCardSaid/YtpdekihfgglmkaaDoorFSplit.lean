/-
  Split of package field and of its reference: what each call answers; nothing that existed before the call has changed behind it. Condition: a string of at most 2^40 bytes.
-/
import Derived.Test.YtpdekihfgglmkaaDoorFEnd
namespace Go.Proofs.YtpdekihfgglmkaaDoor
open Go.RowKit

/-- What Split answers: the list and the number of the error. -/
def splitR (l : List UInt8) : List (List UInt8) × Int := if 65536 < l.length then ([], 5) else if l = [] then ([], 0) else splitL 64 l
/-- A list behind what was read before. -/
def cont (o : List (List UInt8)) (p : List (List UInt8) × Int) : List (List UInt8) × Int := if p.2 = 0 then (o ++ p.1, 0) else ([], p.2)
/-- The answer of a call that makes a list of strings. -/
def Gives (w : World) (r : List (List UInt8) × Int) (e : Ending) (w' : World) : Prop := ∃ v, e = .returned (.tuple #[v, .int .i64 r.2]) ∧ OwnS w' w.heap.size v r.1 ∧ Below w.heap.size w w'
theorem Gives.err {w w' : World} {r : List (List UInt8) × Int} {x : Int} (hr : r = ([], x)) (hb : Below w.heap.size w w') : Gives w r (.returned (.tuple #[.slice none 0 0, .int .i64 x])) w' := by
  subst hr
  exact ⟨_, rfl, OwnS.nil _ _, hb⟩
theorem Gives.ok {w w' : World} {r : List (List UInt8) × Int} {v : Value} {o : List (List UInt8)} (hr : r = (o, 0)) (ho : OwnS w' w.heap.size v o) (hb : Below w.heap.size w w') : Gives w r (.returned (.tuple #[v, .int .i64 0])) w' := by
  subst hr
  exact ⟨_, rfl, ho, hb⟩
theorem OwnS.alloc {w : World} {base : Nat} {v : Value} {l : List (List UInt8)} (h : OwnS w base v l) (o : Obj) : OwnS (w.alloc o) base v l := World.ownsRow.alloc h o
theorem OwnS.below {w w' : World} {base : Nat} {v : Value} {l : List (List UInt8)} (h : OwnS w base v l) (hb : Below w.heap.size w w') : OwnS w' base v l := own_below h hb
theorem owns_put {w0 w w' : World} {v : Value} {l : List (List UInt8)} (hb0 : Below w0.heap.size w0 w) (h : OwnS w w0.heap.size v l) (hb : Below w.heap.size w w') : OwnS w' w0.heap.size v l ∧ Below w0.heap.size w0 w' := ⟨h.below hb, hb0.trans (hb.mono hb0.size)⟩
/-- A slice's length, off its value. -/
def cntOf : Value → Nat | .slice _ n _ => n | _ => 0
theorem cont_nil (n : Nat) (l : List UInt8) : cont [] (splitL n l) = splitL n l := by
  unfold cont
  rcases split_err n l with h | ⟨h1, h2⟩
  · rw [if_pos h, ← h]; rfl
  · rw [if_neg (by omega), ← h1]
theorem split_0 (l : List UInt8) : splitL 0 l = ([], 5) := rfl
theorem split_bad (n : Nat) (l : List UInt8) (h : unq (l.take (endL l)) = none) : splitL (n + 1) l = ([], 3) := by
  unfold splitL
  rw [h]
theorem split_last (n : Nat) (l f : List UInt8) (h : unq (l.take (endL l)) = some f) (hd : l.drop (endL l) = []) : splitL (n + 1) l = ([f], 0) := by
  unfold splitL
  rw [h]
  simp only []
  rw [hd]
theorem split_other (n : Nat) (l f r : List UInt8) (c : UInt8) (h : unq (l.take (endL l)) = some f) (hd : l.drop (endL l) = c :: r) (hc : c ≠ 44) : splitL (n + 1) l = ([], 3) := by
  unfold splitL
  rw [h]
  simp only []
  rw [hd]
  simp only []
  rw [if_neg hc]
theorem split_more (n : Nat) (l f r : List UInt8) (o : List (List UInt8)) (h : unq (l.take (endL l)) = some f) (hd : l.drop (endL l) = 44 :: r) : cont o (splitL (n + 1) l) = cont (o ++ [f]) (splitL n r) := by
  have e : splitL (n + 1) l = if (splitL n r).2 = 0 then (f :: (splitL n r).1, 0) else ([], (splitL n r).2) := by
    conv => lhs; unfold splitL
    rw [h]
    simp only []
    rw [hd]
    simp only []
    rw [if_pos trivial]
  rw [e]
  unfold cont
  by_cases h0 : (splitL n r).2 = 0
  · simp [h0]
  · simp [h0]
theorem unqR_some (s t : List UInt8) (h : unq s = some t) : unqR s = (t, 0) := by unfold unqR; rw [h]
theorem unqR_none (s : List UInt8) (h : unq s = none) : unqR s = ([], 3) := by unfold unqR; rw [h]
set_option maxHeartbeats 4000000 in
theorem fsplit_any (s : ByteArray) (hs : s.size ≤ 1099511627776) (w : World) : Calls Tryd.prog 17 #[.string s] w (Gives w (splitR s.data.toList)) := by
  have hz := sz_list s
  by_cases h5 : 65536 < s.size
  · have R := Lib.hid (show splitR s.data.toList = ([], 5) by unfold splitR; rw [hz, if_pos h5])
    have g : (65536 : Int) < (s.size : Int) := by omega
    clear h5 hz
    go_enter Tryd.func17, Tryd.ntmps17
    go_wp2_with fail
    go_ret2
    exact Gives.err R.out (Below.refl _ _)
  have g : decide ((65536 : Int) < (s.size : Int)) = false := by simp; omega
  by_cases h0 : s.size = 0
  · have hnil : s.data.toList = [] := List.length_eq_zero_iff.1 (by rw [hz]; exact h0)
    have R := Lib.hid (show splitR s.data.toList = ([], 0) by unfold splitR; rw [hz, if_neg h5, if_pos hnil])
    have he : s.toList.isEmpty = true := by rw [nil_iff]; simpa using h0
    clear h5 hz h0 hnil
    go_enter Tryd.func17, Tryd.ntmps17
    go_wp2_with fail
    go_ret2
    exact Gives.ok R.out (OwnS.nil _ _) (Below.refl _ _)
  have he : s.toList.isEmpty = false := by rw [nil_iff]; simpa using h0
  have hnn : s.data.toList ≠ [] := fun e => h0 (by rw [← hz, e]; rfl)
  have R := Lib.hid (show splitR s.data.toList = splitL 64 s.data.toList by unfold splitR; rw [hz, if_neg h5, if_neg hnn])
  clear h5 hz h0 hnn
  go_enter Tryd.func17, Tryd.ntmps17
  go_wp2_with fail
  go_loopw [0, 4] (fun t v wr => ∃ (r : ByteArray) (o : List (List UInt8)), t = .string r ∧ r.size ≤ s.size ∧ OwnS wr w.heap.size v o ∧ o.length ≤ 64 ∧ Hid (cont o (splitL (64 - o.length) r.data.toList) = splitR s.data.toList) ∧ Below w.heap.size w wr) (fun _ v _ => 65 - cntOf v)
  case atStart => exact ⟨s, [], rfl, Nat.le_refl _, OwnS.nil _ _, by simp, Lib.hid (by rw [R.out, cont_nil]; rfl), Below.refl _ _⟩
  case round =>
    clear g he R
    obtain ⟨r, o, rfl, hrs, hown, hol, hq, hb⟩ := hrel
    obtain ⟨A, c, rfl⟩ := own_shape' hown
    have hbs := hb.size
    have hrz := sz_list r
    have HO := Lib.hid hown
    have HB := Lib.hid hb
    by_cases h64 : o.length < 64
    · have g64 : (o.length : Int) < 64 := by omega
      obtain ⟨m, hm⟩ : ∃ m, 64 - o.length = m + 1 := ⟨63 - o.length, by omega⟩
      have hel := end_le r.data.toList
      rw [hrz] at hel
      have X := Lib.hid (fun w => extent_any r (by omega) w)
      obtain ⟨t, ht, htz, -⟩ := as_str (r.data.toList.take (endL r.data.toList))
      obtain ⟨u, hu, huz, -⟩ := as_str (r.data.toList.drop (endL r.data.toList))
      obtain ⟨n, hn⟩ : ∃ n, n = endL r.data.toList := ⟨_, rfl⟩
      rw [← hn] at X ht htz hu huz hel
      have htz' : t.size ≤ r.size := by rw [htz, List.length_take, hrz]; omega
      have huz' : u.size = r.size - n := by rw [huz, List.length_drop, hrz]
      have hn0 : (n : Int) ≤ (r.size : Int) := by omega
      have k1 := fun W => sl_to r t n hel ht.symm n rfl W
      have k2 := fun W => sl_from r u n hel hu.symm n rfl W
      have U := Lib.hid (fun w => funq_any t (by omega) w)
      have hq1 := hq.out
      rw [hm] at hq1
      cases huq : unq t.data.toList with
      | none =>
        rw [unqR_none _ huq] at U
        rw [split_bad m r.data.toList (by rw [← hn, ← ht]; exact huq)] at hq1
        have R := Lib.hid (show splitR s.data.toList = ([], 3) by rw [← hq1]; rfl)
        clear hq1 hq huq hm hown hb ht htz hu huz hn
        go_wp2_with fail
        refine (X.out _).mono ?_
        rintro e w' ⟨rfl, rfl⟩
        go_wp2_with fail
        refine (U.out _).mono ?_
        rintro e w2 ⟨rfl, b2⟩
        go_wp2_with fail
        go_ret2
        exact Gives.err R.out (HB.out.trans (b2.mono hbs))
      | some f =>
        rw [unqR_some _ _ huq] at U
        have hun : unq (r.data.toList.take (endL r.data.toList)) = some f := by rw [← hn, ← ht]; exact huq
        cases hud : u.data.toList with
        | nil =>
          rw [split_last m r.data.toList f hun (by rw [← hn, ← hu]; exact hud)] at hq1
          have R := Lib.hid (show splitR s.data.toList = (o ++ [f], 0) by rw [← hq1]; rfl)
          have he : u.toList.isEmpty = true := by rw [nil_iff]; have := sz_list u; rw [hud] at this; simp at this; simp [← this]
          clear hq1 hq huq hm hown hb ht htz hu huz hn hun hud
          go_wp2_with (first | (go_at_call 35; refine (X.out _).mono ?_; rintro e w' ⟨rfl, rfl⟩) | (go_at_call 15; refine (U.out _).mono ?_; rintro e w2 ⟨rfl, b2⟩; obtain ⟨o2, B2⟩ := owns_put HB.out HO.out b2; have O2 := Lib.hid o2; have BB2 := Lib.hid B2; clear b2 o2 B2) | (at_builtin; refine app_one _ rfl _ _ rfl w.heap.size _ _ f rfl (OwnS.alloc O2.out _) w2.heap.size _ (heap_alloc_new _ _) rfl rfl (by have := BB2.out.size; simp; omega) (by omega) ?_; intro v4 w4 own4 b4))
          go_ret2
          exact Gives.ok R.out own4 ((BB2.out.alloc BB2.out.size _).trans b4)
        | cons d q =>
          have k0 := fun W => at_run u 0 d (by rw [hud]; rfl) 0 rfl W
          have hus : u.size = q.length + 1 := by have := sz_list u; rw [hud] at this; simpa using this.symm
          have he : u.toList.isEmpty = false := by rw [nil_iff]; simp; intro e; rw [e] at hus; simp at hus
          by_cases hd44 : d = 44
          · subst hd44
            obtain ⟨x, hx, hxz, -⟩ := as_str q
            have k3 := fun W => sl_from u x 1 (by omega) (by rw [hud, hx]; rfl) 1 rfl W
            rw [split_more m r.data.toList f q o hun (by rw [← hn, ← hu]; exact hud)] at hq1
            have Q := Lib.hid (show cont (o ++ [f]) (splitL (64 - (o ++ [f]).length) x.data.toList) = splitR s.data.toList by rw [← hq1, hx, show 64 - (o ++ [f]).length = m by simp; omega])
            have q44 : (((44 : UInt8).toNat : Int) != 44) = false := rfl
            have g1 : 1 ≤ (u.size : Int) := by omega
            have hxs : x.size ≤ s.size := by omega
            clear hq1 hq huq hm hown hb ht htz hu huz hn hun hud hx hxz hus
            go_wp2_with (first | (go_at_call 35; refine (X.out _).mono ?_; rintro e w' ⟨rfl, rfl⟩) | (go_at_call 15; refine (U.out _).mono ?_; rintro e w2 ⟨rfl, b2⟩; obtain ⟨o2, B2⟩ := owns_put HB.out HO.out b2; have O2 := Lib.hid o2; have BB2 := Lib.hid B2; clear b2 o2 B2) | (at_builtin; refine app_one _ rfl _ _ rfl w.heap.size _ _ f rfl (OwnS.alloc O2.out _) w2.heap.size _ (heap_alloc_new _ _) rfl rfl (by have := BB2.out.size; simp; omega) (by omega) ?_; intro v4 w4 own4 b4))
            have hc4 := own_shape' own4
            obtain ⟨A4, c4, hv4⟩ := hc4
            have HV := Lib.hid hv4
            clear hv4
            go_roundw
            case rel => exact ⟨x, o ++ [f], rfl, hxs, own4, by simp; omega, Q, (BB2.out.alloc BB2.out.size _).trans b4⟩
            case measure => rw [HV.out]; simp [cntOf]; omega
          · have q44 : ((d.toNat : Int) != 44) = true := byte_bne (d := 44) hd44
            rw [split_other m r.data.toList f q d hun (by rw [← hn, ← hu]; exact hud) hd44] at hq1
            have R := Lib.hid (show splitR s.data.toList = ([], 3) by rw [← hq1]; rfl)
            have g1 : 1 ≤ (u.size : Int) := by omega
            clear hq1 hq huq hm hown hb ht htz hu huz hn hun hud hus hd44
            go_wp2_with (first | (go_at_call 35; refine (X.out _).mono ?_; rintro e w' ⟨rfl, rfl⟩) | (go_at_call 15; refine (U.out _).mono ?_; rintro e w2 ⟨rfl, b2⟩; obtain ⟨o2, B2⟩ := owns_put HB.out HO.out b2; have O2 := Lib.hid o2; have BB2 := Lib.hid B2; clear b2 o2 B2) | (at_builtin; refine app_one _ rfl _ _ rfl w.heap.size _ _ f rfl (OwnS.alloc O2.out _) w2.heap.size _ (heap_alloc_new _ _) rfl rfl (by have := BB2.out.size; simp; omega) (by omega) ?_; intro v4 w4 own4 b4))
            go_ret2
            exact Gives.err R.out ((BB2.out.alloc BB2.out.size _).trans b4)
    · have g64 : decide ((o.length : Int) < 64) = false := by simp; omega
      have R := Lib.hid (show splitR s.data.toList = ([], 5) by rw [← hq.out, show 64 - o.length = 0 by omega]; rfl)
      clear hq hown hb hrz h64
      go_wp2_with fail
      go_ret2
      exact Gives.err R.out HB.out
set_option maxHeartbeats 4000000 in
theorem rsplit_any (s : ByteArray) (hs : s.size ≤ 1099511627776) (w : World) : Calls Tryd.prog 21 #[.string s] w (Gives w (splitR s.data.toList)) := by
  have hz := sz_list s
  by_cases h5 : 65536 < s.size
  · have R := Lib.hid (show splitR s.data.toList = ([], 5) by unfold splitR; rw [hz, if_pos h5])
    have g : (65536 : Int) < (s.size : Int) := by omega
    clear h5 hz
    go_enter Tryd.func21, Tryd.ntmps21
    go_wp2_with fail
    go_ret2
    exact Gives.err R.out (Below.refl _ _)
  have g : decide ((65536 : Int) < (s.size : Int)) = false := by simp; omega
  by_cases h0 : s.size = 0
  · have hnil : s.data.toList = [] := List.length_eq_zero_iff.1 (by rw [hz]; exact h0)
    have R := Lib.hid (show splitR s.data.toList = ([], 0) by unfold splitR; rw [hz, if_neg h5, if_pos hnil])
    have he : s.toList.isEmpty = true := by rw [nil_iff]; simpa using h0
    clear h5 hz h0 hnil
    go_enter Tryd.func21, Tryd.ntmps21
    go_wp2_with fail
    go_ret2
    exact Gives.ok R.out (OwnS.nil _ _) (Below.refl _ _)
  have he : s.toList.isEmpty = false := by rw [nil_iff]; simpa using h0
  have hnn : s.data.toList ≠ [] := fun e => h0 (by rw [← hz, e]; rfl)
  have R := Lib.hid (show splitR s.data.toList = splitL 64 s.data.toList by unfold splitR; rw [hz, if_neg h5, if_neg hnn])
  clear h5 h0 hnn
  go_enter Tryd.func21, Tryd.ntmps21
  go_wp2_with fail
  go_loopw [4, 5, 6] (fun v a i wr => ∃ (k : Nat) (o : List (List UInt8)), a = .int .i64 k ∧ k ≤ s.size ∧ OwnS wr w.heap.size v o ∧ o.length ≤ 64 ∧ i = .int .i64 o.length ∧ Hid (cont o (splitL (64 - o.length) (s.data.toList.drop k)) = splitR s.data.toList) ∧ Below w.heap.size w wr) (fun _ _ i _ => 65 - (intOf i).toNat)
  case atStart => exact ⟨0, [], rfl, Nat.zero_le _, OwnS.nil _ _, by simp, rfl, Lib.hid (by rw [R.out, cont_nil]; rfl), Below.refl _ _⟩
  case round =>
    clear g he R
    obtain ⟨k, o, rfl, hks, hown, hol, rfl, hq, hb⟩ := hrel
    have hbs := hb.size
    have HO := Lib.hid hown
    have HB := Lib.hid hb
    by_cases h64 : o.length < 64
    · have g64 : (o.length : Int) < 64 := by omega
      obtain ⟨m, hm⟩ : ∃ m, 64 - o.length = m + 1 := ⟨63 - o.length, by omega⟩
      obtain ⟨r, hr⟩ : ∃ r, r = s.data.toList.drop k := ⟨_, rfl⟩
      have hrz : r.length = s.size - k := by rw [hr, List.length_drop, hz]
      have hel := end_le r
      have X := Lib.hid (fun w => rend_any s k hks hs w)
      rw [← hr] at X
      obtain ⟨t, ht, htz, -⟩ := as_str (r.take (endL r))
      obtain ⟨n, hn⟩ : ∃ n, n = k + endL r := ⟨_, rfl⟩
      rw [← hn] at X
      have htz' : t.size ≤ s.size := by rw [htz, List.length_take]; omega
      have hn0 : (n : Int) ≤ (s.size : Int) := by omega
      have hn1 : (k : Int) ≤ (n : Int) := by omega
      have hudrop : r.drop (endL r) = s.data.toList.drop n := by rw [hr, List.drop_drop, ← hr, ← hn]
      have k1 := fun W => sl_mid s t k n (by omega) (by omega) (by rw [ht, ← hr, show n - k = endL r by omega]) k n rfl rfl W
      have U := Lib.hid (fun w => runq_any t (by omega) w)
      have hq1 := hq.out
      rw [hm, ← hr] at hq1
      have hnk : n ≤ s.size := by omega
      cases huq : unq t.data.toList with
      | none =>
        rw [unqR_none _ huq] at U
        rw [split_bad m r (by rw [← ht]; exact huq)] at hq1
        have R := Lib.hid (show splitR s.data.toList = ([], 3) by rw [← hq1]; rfl)
        clear hq1 hq huq hm hown hb ht htz hn hudrop hr hrz hel
        go_wp2_with fail
        refine (X.out _).mono ?_
        rintro e w' ⟨rfl, rfl⟩
        go_wp2_with fail
        refine (U.out _).mono ?_
        rintro e w2 ⟨rfl, b2⟩
        go_wp2_with fail
        go_ret2
        exact Gives.err R.out (HB.out.trans (b2.mono hbs))
      | some f =>
        rw [unqR_some _ _ huq] at U
        have hun : unq (r.take (endL r)) = some f := by rw [← ht]; exact huq
        by_cases hend : n = s.size
        · rw [split_last m r f hun (by rw [hudrop]; exact List.drop_eq_nil_of_le (by omega))] at hq1
          have R := Lib.hid (show splitR s.data.toList = (o ++ [f], 0) by rw [← hq1]; rfl)
          have e1 : (n == s.size) = true := by rw [beq_iff_eq]; exact hend
          have e2 : ((n : Int) == (s.size : Int)) = true := beq_true (by omega)
          clear hq1 hq huq hm hown hb ht htz hn hun hudrop hr hrz hel hend
          go_wp2_with (first | (go_at_call 36; refine (X.out _).mono ?_; rintro e w' ⟨rfl, rfl⟩) | (go_at_call 16; refine (U.out _).mono ?_; rintro e w2 ⟨rfl, b2⟩; obtain ⟨o2, B2⟩ := owns_put HB.out HO.out b2; have O2 := Lib.hid o2; have BB2 := Lib.hid B2; clear b2 o2 B2) | (at_builtin; refine app_one _ rfl _ _ rfl w.heap.size _ _ f rfl (OwnS.alloc O2.out _) w2.heap.size _ (heap_alloc_new _ _) rfl rfl (by have := BB2.out.size; simp; omega) (by omega) ?_; intro v4 w4 own4 b4))
          go_ret2
          exact Gives.ok R.out own4 ((BB2.out.alloc BB2.out.size _).trans b4)
        · have hnlt : n < s.size := by omega
          obtain ⟨d, hd⟩ := get_at' s n hnlt
          have k0 := fun W => at_run s n d hd n rfl W
          have hud : r.drop (endL r) = d :: s.data.toList.drop (n + 1) := by rw [hudrop]; exact drop_at _ n d hd
          have e1 : (n == s.size) = false := by rw [beq_eq_false_iff_ne]; exact hend
          have e2 : ((n : Int) == (s.size : Int)) = false := beq_false (by omega)
          by_cases hd44 : d = 44
          · subst hd44
            rw [split_more m r f _ o hun hud] at hq1
            have Q := Lib.hid (show cont (o ++ [f]) (splitL (64 - (o ++ [f]).length) (s.data.toList.drop (n + 1))) = splitR s.data.toList by rw [← hq1, show 64 - (o ++ [f]).length = m by simp; omega])
            have q44 : (((44 : UInt8).toNat : Int) != 44) = false := rfl
            clear hq1 hq huq hm hown hb ht htz hn hun hudrop hr hrz hel hend hd hud
            go_wp2_with (first | (go_at_call 36; refine (X.out _).mono ?_; rintro e w' ⟨rfl, rfl⟩) | (go_at_call 16; refine (U.out _).mono ?_; rintro e w2 ⟨rfl, b2⟩; obtain ⟨o2, B2⟩ := owns_put HB.out HO.out b2; have O2 := Lib.hid o2; have BB2 := Lib.hid B2; clear b2 o2 B2) | (at_builtin; refine app_one _ rfl _ _ rfl w.heap.size _ _ f rfl (OwnS.alloc O2.out _) w2.heap.size _ (heap_alloc_new _ _) rfl rfl (by have := BB2.out.size; simp; omega) (by omega) ?_; intro v4 w4 own4 b4))
            go_roundw
            case rel => exact ⟨n + 1, o ++ [f], by go_num, by omega, own4, by simp; omega, by simp, Q, (BB2.out.alloc BB2.out.size _).trans b4⟩
            case measure => simp [intOf]; omega
          · have q44 : ((d.toNat : Int) != 44) = true := byte_bne (d := 44) hd44
            rw [split_other m r f _ d hun hud hd44] at hq1
            have R := Lib.hid (show splitR s.data.toList = ([], 3) by rw [← hq1]; rfl)
            clear hq1 hq huq hm hown hb ht htz hn hun hudrop hr hrz hel hend hd hud hd44
            go_wp2_with (first | (go_at_call 36; refine (X.out _).mono ?_; rintro e w' ⟨rfl, rfl⟩) | (go_at_call 16; refine (U.out _).mono ?_; rintro e w2 ⟨rfl, b2⟩; obtain ⟨o2, B2⟩ := owns_put HB.out HO.out b2; have O2 := Lib.hid o2; have BB2 := Lib.hid B2; clear b2 o2 B2) | (at_builtin; refine app_one _ rfl _ _ rfl w.heap.size _ _ f rfl (OwnS.alloc O2.out _) w2.heap.size _ (heap_alloc_new _ _) rfl rfl (by have := BB2.out.size; simp; omega) (by omega) ?_; intro v4 w4 own4 b4))
            go_ret2
            exact Gives.err R.out ((BB2.out.alloc BB2.out.size _).trans b4)
    · have g64 : decide ((o.length : Int) < 64) = false := by simp; omega
      have R := Lib.hid (show splitR s.data.toList = ([], 5) by rw [← hq.out, show 64 - o.length = 0 by omega]; rfl)
      clear hq hown hb h64
      go_wp2_with fail
      go_ret2
      exact Gives.err R.out HB.out
end Go.Proofs.YtpdekihfgglmkaaDoor
