/-
  Prefix of the reference, which puts each index into its place: what the call answers; nothing that existed before the call has changed behind it. Condition: at most 1000 different identifiers.
-/
import Derived.Test.YtfmajfmimgcfnaaIPre
namespace Go.Proofs.Ytfmajfmimgcfnaa
open Go.RowKit

/-- The indices below k whose names begin with p, in the order of the names. -/
def SecK (ls : List (List UInt8)) (p : List UInt8) (k : Nat) (o : List Nat) : Prop := Rises ls o ∧ (∀ i, i ∈ o ↔ i < k ∧ beginsB p (nameAt ls i) = true) ∧ o.length ≤ k
theorem SecK.start (ls : List (List UInt8)) (p : List UInt8) : SecK ls p 0 [] := ⟨List.Pairwise.nil, fun i => by simp, Nat.le_refl _⟩
theorem SecK.done {ls : List (List UInt8)} (hg : Good5 ls) {p : List UInt8} {o : List Nat} (h : SecK ls p ls.length o) : o = secL ls p := sec_eq hg ⟨h.1, h.2.1⟩
theorem SecK.no {ls : List (List UInt8)} {p : List UInt8} {k : Nat} {o : List Nat} (h : SecK ls p k o) (hb : beginsB p (nameAt ls k) = false) : SecK ls p (k + 1) o := by
  refine ⟨h.1, fun i => (h.2.1 i).trans ⟨fun ⟨a, b⟩ => ⟨by omega, b⟩, fun ⟨a, b⟩ => ⟨?_, b⟩⟩, Nat.le_succ_of_le h.2.2⟩
  by_cases hik : i = k
  · subst hik; rw [hb] at b; cases b
  · omega
theorem SecK.put {ls : List (List UInt8)} {p : List UInt8} {k j : Nat} {o : List Nat} (h : SecK ls p k o) (hb : beginsB p (nameAt ls k) = true)
    (h1 : ∀ m x, m < j → o[m]? = some x → ltL (nameAt ls x) (nameAt ls k)) (h2 : ∀ x, o[j]? = some x → ltL (nameAt ls k) (nameAt ls x)) : SecK ls p (k + 1) (o.take j ++ k :: o.drop j) := by
  refine ⟨rises_put ls o k j h.1 h1 h2, fun i => ?_, ?_⟩
  rotate_left
  · have := h.2.2
    rw [List.length_append, List.length_cons, List.length_take, List.length_drop]
    omega
  rw [mem_put, h.2.1]
  constructor
  · rintro (rfl | ⟨a, b⟩)
    · exact ⟨by omega, hb⟩
    · exact ⟨by omega, b⟩
  · rintro ⟨a, b⟩
    by_cases hik : i = k
    · exact Or.inl hik
    · exact Or.inr ⟨by omega, b⟩
theorem SecK.lt {ls : List (List UInt8)} {p : List UInt8} {k : Nat} {o : List Nat} (h : SecK ls p k o) {j x : Nat} (hx : o[j]? = some x) : x < k := ((h.2.1 x).1 (List.mem_iff_getElem?.2 ⟨j, hx⟩)).1
theorem intN_at {o : List Nat} {j x : Nat} (h : o[j]? = some x) : (intN o)[j]? = some (x : Int) := by
  unfold intN
  rw [List.getElem?_map, h]
  rfl
set_option maxHeartbeats 4000000 in
theorem rprefix_any (v : Value) (ls : List (List UInt8)) (hl : ls.length ≤ 1000) (hs : ∀ (j : Nat) x, ls[j]? = some x → x.length ≤ 1048576) (hg : Good5 ls) (p : ByteArray) (w : World) (h : Lst w v ls) :
    Calls Try.prog 27 #[v, .string p] w fun e w' => ∃ x, e = .returned x ∧ LstI w' x (intN (secL ls p.data.toList)) ∧ Below w.heap.size w w' := by
  obtain ⟨A, c, rfl, _, hx⟩ := h
  have HX := Lib.hid hx
  have HS := Lib.hid hs
  have HG := Lib.hid hg
  clear hx hs hg
  go_enter Try.func27, Try.ntmps27
  go_wp2_with fail
  go_loopw [5, 6] (fun v i wr => ∃ (k : Nat) (o : List Nat), i = .int .i64 k ∧ k ≤ ls.length ∧ Hid (SecK ls p.data.toList k o) ∧ Hid (OwnI wr w.heap.size v (intN o)) ∧ Hid (Below w.heap.size w wr)) (fun _ i _ => ls.length - (intOf i).toNat)
  case atStart => exact ⟨0, [], rfl, Nat.zero_le _, Lib.hid (SecK.start _ _), Lib.hid (OwnI.nil _ _), Lib.hid (Below.refl _ _)⟩
  case round =>
    obtain ⟨k, o, rfl, hk, hsk, ho, hb⟩ := hrel
    by_cases hlt : k < ls.length
    · obtain ⟨b, f, rfl, hbl, hcell⟩ := HX.out (by omega)
      have hc := (hb.out.cell (p := ⟨b, f + k, none⟩) hbl).trans (hcell k _ (sts_at ls k _ (name_at hlt)))
      have gk : (k : Int) < (ls.length : Int) := by omega
      obtain ⟨s, hs, _, hst⟩ := as_str (nameAt ls k)
      rw [hst] at hc
      have P := Lib.hid (fun W => begins_any s p W)
      rw [hs] at P
      have HCE := Lib.hid hcell
      clear hcell HX
      cases hq : beginsB p.data.toList (nameAt ls k) with
      | false =>
        rw [hq] at P
        have K := Lib.hid (hsk.out.no hq)
        clear hq hs hst hsk HCE HS HG
        go_wp2_with fail
        refine (P.out _).mono ?_
        rintro e w' ⟨rfl, rfl⟩
        go_wp2_with fail
        go_roundw
        case rel => exact ⟨k + 1, o, by go_num, by omega, K, ho, hb⟩
        case measure => simp [intOf]; omega
      | true =>
        rw [hq] at P
        have HQ := Lib.hid hq
        have KS := Lib.hid hs
        obtain ⟨B, d, rfl, hcap, hno, hox⟩ := ho.out.lst
        have hin := intN_len o
        rw [hin] at hox ho ⊢
        clear hq hs hst
        have LEN : Hid (o.length ≤ k) := hsk.out.2.2
        have ho1 : o.length ≤ 1000 := by have := hsk.out.2.2; omega
        go_wp2_with fail
        refine (P.out _).mono ?_
        rintro e w' ⟨rfl, rfl⟩
        go_wp2_with fail
        go_loopw [7] (fun j w2 => ∃ m : Nat, j = .int .i64 m ∧ m ≤ o.length ∧ Hid (∀ (q x : Nat), q < m → o[q]? = some x → ltL (nameAt ls x) (nameAt ls k)) ∧ Hid (∃ n, w2 = wr.drewN n)) (fun j _ => o.length - (intOf j).toNat)
        case atStart => exact ⟨0, rfl, Nat.zero_le _, Lib.hid (fun q x hq => absurd hq (Nat.not_lt_zero _)), Lib.hid ⟨0, rfl⟩⟩
        case round =>
          obtain ⟨m, rfl, hm0, hall, hn⟩ := hrel
          have hc2 := ((drew_below hn.out).cell (p := ⟨b, f + k, none⟩) (World.block_lt_of_cell? _ _ hc)).trans hc
          clear hc
          by_cases hm : m < o.length
          · obtain ⟨x, hx⟩ := at_lt hm
            obtain ⟨g1, f1, rfl, hg1, hcell1⟩ := hox (by omega)
            have m1 := ((drew_below hn.out).cell (p := ⟨g1, f1 + m, none⟩) hg1).trans (hcell1 m _ (ints_at _ m _ (intN_at hx)))
            have hxk := hsk.out.lt hx
            have m2 := (((hb.out.trans ((drew_below hn.out).mono hb.out.size))).cell (p := ⟨b, f + x, none⟩) hbl).trans (HCE.out x _ (sts_at ls x _ (name_at (by omega))))
            obtain ⟨s1, e1, z1, t1⟩ := as_str (nameAt ls x)
            rw [t1] at m2
            have hz := HS.out x _ (name_at (by omega))
            have C := Lib.hid (fun W => rcompare_any s1 s (by omega) W)
            rw [e1, KS.out] at C
            have gm : (m : Int) < (o.length : Int) := by omega
            have gx0 : (0 : Int) ≤ (x : Int) := by omega
            have gx : (x : Int) < (ls.length : Int) := by omega
            have hne : cmpL (nameAt ls x) (nameAt ls k) ≠ 0 := fun e => by
              have := name_diff HG.out (by omega) hlt ((cmp_iff _ _).1 e)
              omega
            have hflip := lt_flip (nameAt ls x) (nameAt ls k)
            rcases (by have := cmp_three (nameAt ls x) (nameAt ls k); omega : cmpL (nameAt ls x) (nameAt ls k) = -1 ∨ cmpL (nameAt ls x) (nameAt ls k) = 1) with hr | hr
            · rw [hr] at C
              have T : Hid (∀ (q y : Nat), q < m + 1 → o[q]? = some y → ltL (nameAt ls y) (nameAt ls k)) := by
                intro q y hq hy
                by_cases hqm : q < m
                · exact hall.out q y hqm hy
                · obtain rfl : q = m := by omega
                  rw [hx] at hy
                  obtain rfl := Option.some.inj hy
                  exact hr
              clear hx hcell1 hg1 hxk e1 z1 t1 hz hne hflip hr hall HCE HS HG KS HQ hsk ho hb hox
              go_wp2_with fail
              go_quiet ((go_at_call 16; with_reducible exact quiet_on C.out _ _))
              go_wp2_with fail
              go_roundw
              case rel => exact ⟨m + 1, by go_num, by omega, T, drew_on hn nq⟩
              case measure => simp [intOf]; omega
            · rw [hr] at C
              have K : Hid (SecK ls p.data.toList (k + 1) (o.take m ++ k :: o.drop m)) := hsk.out.put HQ.out hall.out (fun y hy => by
                rw [hx] at hy
                obtain rfl := Option.some.inj hy
                exact hflip.1 hr)
              clear hx hcell1 hg1 hxk e1 z1 t1 hz hne hflip hr hall HCE HS HG KS HQ hsk hox
              go_wp2_with fail
              go_quiet ((go_at_call 16; with_reducible exact quiet_on C.out _ _))
              have hn3 := drew_on hn nq
              generalize wr.drewN nq = w3 at hn3 ⊢
              clear m1 m2 hc2 C gm gx0 gx
              have hb3 : Hid (Below w.heap.size w w3) := hb.out.trans ((drew_below hn3.out).mono hb.out.size)
              have LO := ho.out.lst.below (drew_below hn3.out)
              obtain ⟨x1, hx1, lx1⟩ := ints_to LO m (by rw [hin]; exact hm0) m rfl
              obtain ⟨x2, hx2, lx2⟩ := ints_from LO m (by rw [hin]; exact hm0) m rfl
              have LX1 := Lib.hid lx1
              have LX2 := Lib.hid lx2
              have hlen := LEN.out
              have tl : ((intN o).take m).length ≤ 1000 := by rw [List.length_take]; omega
              have dl : ((intN o).drop m).length ≤ 1000 := by rw [List.length_drop]; omega
              clear lx1 lx2 LO hn3 hn ho hb
              go_wp2_with (first
                | (at_builtin; refine app_ints _ rfl (.tmp 43) (.tmp 46) rfl w3.heap.size _ [] ((intN o).take m) rfl (OwnI.nil _ _) x1 rfl LX1.out (Nat.le_refl _) (by simp; omega) ?_
                   intro v4 w4 own4 b4
                   have O4 := Lib.hid own4
                   have B4 := Lib.hid b4
                   clear own4 b4 hx1 LX1)
                | (at_builtin; refine app_int _ rfl (.tmp 48) (.tmp 50) rfl w3.heap.size _ ([] ++ (intN o).take m) k rfl (World.ownsRow.alloc O4.out _) w4.heap.size _ (heap_alloc_new _ _) rfl rfl (by have := B4.out.size; simp; omega) (by simp; omega) ?_
                   intro v5 w5 own5 b5
                   have O5 := Lib.hid own5
                   have B5 := Lib.hid (B4.out.trans (((Below.refl _ _).alloc B4.out.size _).trans b5))
                   clear own5 b5 O4 B4)
                | (at_builtin; refine app_ints _ rfl (.tmp 52) (.tmp 55) rfl w3.heap.size _ ([] ++ (intN o).take m ++ [(k : Int)]) ((intN o).drop m) rfl O5.out x2 rfl (LX2.out.below B5.out) B5.out.size (by rw [List.length_append, List.length_append]; simp only [List.length_nil, List.length_singleton]; omega) ?_
                   intro v6 w6 own6 b6
                   have O6 := Lib.hid own6
                   have B6 := Lib.hid (B5.out.trans b6)
                   clear own6 b6 O5 B5 LX2 hx2))
              have BN : Hid (Below w.heap.size w w6) := hb3.out.trans (B6.out.mono hb3.out.size)
              have ON : Hid (OwnI w6 w.heap.size v6 (intN (o.take m ++ k :: o.drop m))) := by
                show OwnI _ _ _ _
                have := O6.out
                rw [show [] ++ (intN o).take m ++ [(k : Int)] ++ (intN o).drop m = intN (o.take m ++ k :: o.drop m) by simp [intN]] at this
                exact own_down this hb3.out.size
              clear O6 B6 hb3 hlen tl dl
              go_wp2_with fail
              go_roundw
              case rel => exact ⟨k + 1, _, by go_num, by omega, K, ON, BN⟩
              case measure => simp [intOf]; omega
          · have d : decide (m < o.length) = false := decide_eq_false hm
            have K : Hid (SecK ls p.data.toList (k + 1) (o.take m ++ k :: o.drop m)) := hsk.out.put HQ.out hall.out (fun y hy => by
              have := (List.getElem?_eq_some_iff.1 hy).1
              omega)
            clear hall HCE HS HG KS HQ hsk hox
            go_wp2_with fail
            go_quiet (fail)
            have hn3 := drew_on hn nq
            generalize wr.drewN nq = w3 at hn3 ⊢
            clear hc2
            have hb3 : Hid (Below w.heap.size w w3) := hb.out.trans ((drew_below hn3.out).mono hb.out.size)
            have LO := ho.out.lst.below (drew_below hn3.out)
            obtain ⟨x1, hx1, lx1⟩ := ints_to LO m (by rw [hin]; exact hm0) m rfl
            obtain ⟨x2, hx2, lx2⟩ := ints_from LO m (by rw [hin]; exact hm0) m rfl
            have LX1 := Lib.hid lx1
            have LX2 := Lib.hid lx2
            have hlen := LEN.out
            have tl : ((intN o).take m).length ≤ 1000 := by rw [List.length_take]; omega
            have dl : ((intN o).drop m).length ≤ 1000 := by rw [List.length_drop]; omega
            clear lx1 lx2 LO hn3 hn ho hb
            go_wp2_with (first
              | (at_builtin; refine app_ints _ rfl (.tmp 43) (.tmp 46) rfl w3.heap.size _ [] ((intN o).take m) rfl (OwnI.nil _ _) x1 rfl LX1.out (Nat.le_refl _) (by simp; omega) ?_
                 intro v4 w4 own4 b4
                 have O4 := Lib.hid own4
                 have B4 := Lib.hid b4
                 clear own4 b4 hx1 LX1)
              | (at_builtin; refine app_int _ rfl (.tmp 48) (.tmp 50) rfl w3.heap.size _ ([] ++ (intN o).take m) k rfl (World.ownsRow.alloc O4.out _) w4.heap.size _ (heap_alloc_new _ _) rfl rfl (by have := B4.out.size; simp; omega) (by simp; omega) ?_
                 intro v5 w5 own5 b5
                 have O5 := Lib.hid own5
                 have B5 := Lib.hid (B4.out.trans (((Below.refl _ _).alloc B4.out.size _).trans b5))
                 clear own5 b5 O4 B4)
              | (at_builtin; refine app_ints _ rfl (.tmp 52) (.tmp 55) rfl w3.heap.size _ ([] ++ (intN o).take m ++ [(k : Int)]) ((intN o).drop m) rfl O5.out x2 rfl (LX2.out.below B5.out) B5.out.size (by rw [List.length_append, List.length_append]; simp only [List.length_nil, List.length_singleton]; omega) ?_
                 intro v6 w6 own6 b6
                 have O6 := Lib.hid own6
                 have B6 := Lib.hid (B5.out.trans b6)
                 clear own6 b6 O5 B5 LX2 hx2))
            have BN : Hid (Below w.heap.size w w6) := hb3.out.trans (B6.out.mono hb3.out.size)
            have ON : Hid (OwnI w6 w.heap.size v6 (intN (o.take m ++ k :: o.drop m))) := by
              show OwnI _ _ _ _
              have := O6.out
              rw [show [] ++ (intN o).take m ++ [(k : Int)] ++ (intN o).drop m = intN (o.take m ++ k :: o.drop m) by simp [intN]] at this
              exact own_down this hb3.out.size
            clear O6 B6 hb3 hlen tl dl
            go_wp2_with fail
            go_roundw
            case rel => exact ⟨k + 1, _, by go_num, by omega, K, ON, BN⟩
            case measure => simp [intOf]; omega
    · have d : decide (k < ls.length) = false := by rw [decide_eq_false_iff_not]; exact hlt
      obtain rfl : k = ls.length := by omega
      have R := Lib.hid (hsk.out.done HG.out)
      have L := Lib.hid (ho.out.lst)
      have B := hb
      clear hsk ho hb HG HX HS hlt
      go_wp2_with fail
      go_ret
      exact ⟨_, rfl, by rw [← R.out]; exact L.out, B.out⟩
end Go.Proofs.Ytfmajfmimgcfnaa
