/-
  The law HeapKeeps: true for every input, nothing that existed has changed. Condition: the integers are ints.
-/
import Derived.Test.YtnmomkldlajimaaHLaw
namespace Go.Proofs.Ytnmomkldlajimaa
open Go.RowKit

/-- What the second loop knows when k elements have been popped. -/
def KeepR (m : Int) (B : Nat) (l : List Pr) (w : World) (k : Nat) (out : Value) (wr : World) : Prop :=
  ∃ (acc : List Pr) (l' : List (Pr × Nat)), St wr B (fnM m) l' l.length ∧ OwnP wr w.heap.size out acc ∧ acc.length = k ∧ acc.length + l'.length = l.length ∧ (acc ++ l'.map (·.1)).Perm l ∧ Below w.heap.size w wr
theorem keep_case (a n : Nat) (p : Int) : ((a : Int) < p ∧ a < n) ∨ (((a : Int) < p ∧ decide (a < n) = false) ∨ decide ((a : Int) < p) = false) := by
  by_cases c1 : (a : Int) < p
  · by_cases c2 : a < n
    · exact .inl ⟨c1, c2⟩
    · exact .inr (.inl ⟨c1, decide_eq_false c2⟩)
  · exact .inr (.inr (decide_eq_false c1))
theorem keep_next {m : Int} {B : Nat} {l : List Pr} {w w3 w4 : World} {acc : List Pr} {l' : List (Pr × Nat)} {a : Pr × Nat} {o v1 : Value} (ha : l'[0]? = some a) (hal : acc.length + l'.length = l.length) (hp : (acc ++ l'.map (·.1)).Perm l) (s : St w3 B (fnM m) (popH (lessM m) l') l.length) (ow : OwnP w3 w.heap.size o acc) (own : OwnP w4 w.heap.size v1 (acc ++ [a.1])) (g : w3.grownBy w4 o.ownBlock) (hb : Below w.heap.size w w4) : KeepR m B l w (acc.length + 1) v1 w4 := by
  have hl := (List.getElem?_eq_some_iff.1 ha).1
  refine ⟨acc ++ [a.1], popH (lessM m) l', s.grown ow not_ht g, own, by simp, by rw [pop_len]; simp; omega, ?_, hb⟩
  refine List.Perm.trans ?_ hp
  rw [List.append_assoc]
  exact ((pop_perm (lessM m) l' a ha).map (fun x : Pr × Nat => x.1)).symm.append_left acc
set_option maxRecDepth 100000 in
set_option maxHeartbeats 4000000 in
theorem keeps_law (m : Int) (v : Value) (l : List Pr) (_ : l.length ≤ 9223372036854775807) (hk : ∀ a ∈ l, Ok2 a) (p : Int) (w : World) (h : LstP w v l) : Calls Try.prog 7 #[.int .i64 m, v, .int .i64 p] w fun e w' => e = .returned (.bool true) ∧ Below w.heap.size w w' := by
  have M := Lib.hid (made_any m w)
  have hh := h
  obtain ⟨A, c, rfl, -⟩ := hh
  have H : Hid (LstP w (.slice A l.length c) l) := h
  have HK := Lib.hid hk
  clear h hk
  rcases guard3 m l.length 4 with h0 | ⟨h0, h1⟩ | ⟨h0, h1, h2⟩ | ⟨h0, h1, h2, h3, h4, h5⟩
  · clear H HK
    go_enter Try.func7, Try.ntmps7
    go_wp2_with fail
    refine M.out.mono ?_
    rintro e w1 ⟨rfl, -, b1⟩
    go_wp2_with fail
    refine (rel (W := w) (ex_any w1) b1).mono ?_
    rintro e w2 ⟨rfl, b2⟩
    clear b1
    go_wp2_with fail
    go_ret
    exact ⟨rfl, b2⟩
  · clear H HK
    go_enter Try.func7, Try.ntmps7
    go_wp2_with fail
    refine M.out.mono ?_
    rintro e w1 ⟨rfl, -, b1⟩
    go_wp2_with fail
    refine (rel (W := w) (ex_any w1) b1).mono ?_
    rintro e w2 ⟨rfl, b2⟩
    clear b1
    go_wp2_with fail
    go_ret
    exact ⟨rfl, b2⟩
  · clear H HK
    go_enter Try.func7, Try.ntmps7
    go_wp2_with fail
    refine M.out.mono ?_
    rintro e w1 ⟨rfl, -, b1⟩
    go_wp2_with fail
    refine (rel (W := w) (ex_any w1) b1).mono ?_
    rintro e w2 ⟨rfl, b2⟩
    clear b1
    go_wp2_with fail
    go_ret
    exact ⟨rfl, b2⟩
  · skip
    go_enter Try.func7, Try.ntmps7
    go_wp2_with fail
    refine M.out.mono ?_
    rintro e w1 ⟨rfl, s1, b1⟩
    have P1 : Hid (PushR m w.heap.size l w 0 w1) := ⟨s1, b1⟩
    clear s1 b1 M
    go_wp2_with fail
    go_loopw [36] (fun u wr => ∃ k : Nat, u = .int .i64 (k : Int) ∧ k ≤ l.length ∧ Hid (PushR m w.heap.size l w k wr)) (fun u _ => l.length - (intOf u).toNat)
    case atStart => exact ⟨0, rfl, Nat.zero_le _, P1⟩
    case round =>
      obtain ⟨k, rfl, hkl, HP⟩ := hrel
      by_cases hlt : k < l.length
      · obtain ⟨x, hx⟩ := at_lt hlt
        obtain ⟨b, o, c', hv, hb, x0, x1⟩ := LstG.pair H.out hx
        cases hv
        rw [← HP.out.2.cell (p := ⟨b, _, none⟩) hb] at x0 x1
        have hbr : b < wr.heap.size := Nat.lt_of_lt_of_le hb HP.out.2.size
        have C := Lib.hid (push_round m w.heap.size l h5 HK.out w hx (Nat.le_refl _) wr HP.out)
        have gk : (k : Int) < (l.length : Int) := by omega
        clear hx HP
        go_wp2_with fail
        refine C.out.mono ?_
        rintro e w2 ⟨rfl, p2⟩
        have P2 := Lib.hid p2
        clear p2 x0 x1 C
        go_wp2_with fail
        go_roundw
        case rel => exact ⟨k + 1, by go_num, by omega, P2⟩
        case measure => simp [intOf]; omega
      · have hk2 : k = l.length := by omega
        subst hk2
        have S := HP.out.1
        rw [List.take_length] at S
        have SS := Lib.hid S
        have B0 := Lib.hid HP.out.2
        have hc : (pushAll (lessM m) [] 0 l).length = l.length := by rw [pushAll_len]; simp
        have dd : decide (l.length < l.length) = false := by simp
        clear S HP hlt
        have KR : Hid (KeepR m w.heap.size l w 0 (.slice none 0 0) wr) := ⟨[], pushAll (lessM m) [] 0 l, SS.out, OwnP.at_nil _ _, rfl, by rw [hc]; simp, by
          have := (pushAll_perm (lessM m) l [] 0).map (fun x : Pr × Nat => x.1)
          rwa [List.nil_append, numb_map] at this, B0.out⟩
        clear SS B0 hc
        go_wp2_with fail
        go_loopw [10, 11] (fun o u wr => ∃ k : Nat, u = .int .i64 (k : Int) ∧ k ≤ l.length ∧ Hid (KeepR m w.heap.size l w k o wr)) (fun _ u _ => l.length - (intOf u).toNat)
        case atStart => exact ⟨0, rfl, Nat.zero_le _, KR⟩
        case round =>
          obtain ⟨k, rfl, hkl, HR⟩ := hrel
          obtain ⟨acc, l', st, ow, rfl, hal, hp, hb⟩ := HR.out
          have ST := Lib.hid st
          have OW := Lib.hid ow
          have HP := Lib.hid hp
          have HB := Lib.hid hb
          have hbs := hb.size
          clear HR st ow hp hb KR
          rcases keep_case acc.length l.length p with ⟨c1, c2⟩ | hend
          · obtain ⟨a, ha0⟩ := at_lt (l := l') (k := 0) (by omega)
            have HA := Lib.hid ha0
            have gk : (acc.length : Int) < (l.length : Int) := by omega
            clear ha0
            go_wp2_with fail
            refine (peek_yes w.heap.size l.length l' a HA.out (by omega) wr ST.out).mono ?_
            rintro e w2 ⟨rfl, b2⟩
            have b2' : Below wr.heap.size wr (w2.alloc (.cells #[.int .i64 a.1.1, .int .i64 a.1.2] 28 (0, 0))) := b2.alloc b2.size _
            have S2 := Lib.hid (ST.out.below b2')
            have O2 := Lib.hid (OW.out.below b2')
            have B2 : Hid (Below w.heap.size w (w2.alloc (.cells #[.int .i64 a.1.1, .int .i64 a.1.2] 28 (0, 0)))) := HB.out.trans (b2'.mono hbs)
            have R2 := Lib.hid (heap_alloc_new w2 (.cells #[.int .i64 a.1.1, .int .i64 a.1.2] 28 (0, 0)))
            clear b2 b2' ST OW HB
            go_wp2_with fail
            refine (pop_yes (fun_mode m) w.heap.size l.length l' a HA.out (by omega) _ S2.out).mono ?_
            rintro e w3 ⟨rfl, s3, f3⟩
            have S3 := Lib.hid s3
            have r3 := f3.other R2.out not_ht
            have z3 : w2.heap.size < w3.heap.size := Tag.lt ⟨_, _, r3⟩
            have O3 := Lib.hid (O2.out.fr f3 not_ht)
            have B3 : Hid (Below w.heap.size w w3) := B2.out.trans (f3.below B2.out.size)
            have x0 : w3.cell? ⟨w2.heap.size, 0, none⟩ = some (.int .i64 a.1.1) := by rw [cell_of_row _ _ 0 _ _ _ r3]; rfl
            have x1 : w3.cell? ⟨w2.heap.size, 1, none⟩ = some (.int .i64 a.1.2) := by rw [cell_of_row _ _ 1 _ _ _ r3]; rfl
            have hb3 := B3.out.size
            obtain ⟨A2, c2', rfl, -⟩ := ownK_shape O3.out
            clear s3 f3 r3 S2 O2 B2 R2
            go_wp2_with (at_builtin; refine appG_one pc_len pc_one (by decide) Try.underlying26 info_pr rfl (by decide) _ rfl (.tmp 76) (.tmp 78) rfl w.heap.size _ acc a.1 rfl ((O3.out.below ((Below.refl _ _).alloc (Nat.le_refl _) _)).below ((Below.refl _ _).alloc (Nat.le_refl _) _)) (w3.heap.size + 1) _ (heap_alloc2_new _ _ _) rfl rfl (by simp; omega) (by omega) ?_)
            intro v1 w4 own1 b4 g4 _
            have g4' : World.grownBy _ w4 (Value.slice A2 acc.length c2').ownBlock := g4
            have bq : Below w3.heap.size w3 ((w3.alloc (.cells #[.int .i64 a.1.1, .int .i64 a.1.2] 28 (0, 0))).alloc (.cells #[.int .i64 a.1.1, .int .i64 a.1.2] 28 (0, 0))) := ((Below.refl _ _).alloc (Nat.le_refl _) _).alloc (by simp) _
            have N := Lib.hid (keep_next HA.out hal HP.out (S3.out.below bq) (O3.out.below bq) own1 g4' ((B3.out.trans (bq.mono hb3)).trans b4))
            clear own1 b4 g4 g4' bq x0 x1 S3 O3 B3 HP HA
            go_wp2_with fail
            go_roundw
            case rel => exact ⟨acc.length + 1, by go_num, by omega, N⟩
            case measure => simp [intOf]; omega
          · have SL := Lib.hid ST.out.slice
            have q : ((l'.length : Int) != (l.length : Int) - (acc.length : Int)) = false := neq_false (by omega)
            have DL := drain_perm (lessM m) l'
            have hdl : (drainH (lessM m) l').length = l'.length := by rw [DL.length_eq, List.length_map]
            have DP := Lib.hid ((DL.append_left acc).trans HP.out)
            clear DL HP SL
            obtain ⟨A2, c2', rfl, -⟩ := ownK_shape OW.out
            rcases hend with ⟨c1, d1⟩ | d1
            all_goals
              go_wp2_with fail
              refine (len_any w.heap.size l.length l' wr ST.out).mono ?_
              rintro e w' ⟨rfl, rfl⟩
              go_wp2_with fail
              refine (drain_any (fun_mode m) w.heap.size l.length l' (by omega) wr ST.out).mono ?_
              rintro e w2 ⟨v2, rfl, o2, s2, f2⟩
              have O2 := Lib.hid (OW.out.fr f2 not_ht)
              have V2 := Lib.hid (OwnG.lst o2)
              have S2 := Lib.hid s2
              have B2 : Hid (Below w.heap.size w w2) := HB.out.trans (f2.below hbs)
              have hb2 := B2.out.size
              clear o2 s2 f2 ST OW HB q
              go_wp2_with (at_builtin; refine appG_list pc_len pc_one (by decide) Try.underlying26 info_pr rfl (by decide) _ rfl (.tmp 88) (.tmp 90) rfl w.heap.size _ acc (drainH (lessM m) l') rfl O2.out v2 rfl V2.out hb2 (by omega) ?_)
              intro v3 w3 own3 b3 g3 _
              have g3' : World.grownBy _ w3 (Value.slice A2 acc.length c2').ownBlock := g3
              have S3 := Lib.hid (S2.out.grown O2.out not_ht g3')
              have L3 := Lib.hid (OwnG.lst own3)
              have B3 : Hid (Below w.heap.size w w3) := B2.out.trans b3
              clear own3 b3 g3 g3' O2 V2 S2 B2
              go_wp2_with fail
              refine (len_any w.heap.size l.length [] w3 S3.out).mono ?_
              rintro e w' ⟨rfl, rfl⟩
              clear S3
              go_wp2_with fail
              refine (rel (W := w) (permuted_any _ _ (acc ++ drainH (lessM m) l') l DP.out (by rw [List.length_append, hdl]; omega) w3 L3.out (H.out.below B3.out)) B3.out).mono ?_
              rintro e w4 ⟨rfl, b4⟩
              have B4 := Lib.hid b4
              clear b4 B3 L3 DP
              go_wp2_with fail
              refine (sorted_any m _ l HK.out (by omega) w4 (H.out.below B4.out)).mono ?_
              rintro e w5 ⟨v5, rfl, o5, b5⟩
              have B5 : Hid (Below w.heap.size w w5) := B4.out.trans (b5.mono B4.out.size)
              have L5 := Lib.hid (OwnG.lst o5)
              clear o5 b5 B4
              go_wp2_with fail
              refine (rel (W := w) (permuted_any _ _ (sortH (lessM m) l) l (sort_perm _ _) (by rw [sort_len]; omega) w5 L5.out (H.out.below B5.out)) B5.out).mono ?_
              rintro e w6 ⟨rfl, b6⟩
              have B6 := Lib.hid b6
              clear b6 B5 L5
              go_wp2_with fail
              refine (rel (W := w) (ex_any w6) B6.out).mono ?_
              rintro e w7 ⟨rfl, b7⟩
              clear B6
              go_wp2_with fail
              go_ret
              exact ⟨rfl, b7⟩
end Go.Proofs.Ytnmomkldlajimaa
