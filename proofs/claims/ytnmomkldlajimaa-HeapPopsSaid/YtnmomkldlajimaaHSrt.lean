/-
  The law HeapSorts: true for every input, nothing that existed has changed. Condition: the integers are ints.
-/
import Derived.Test.YtnmomkldlajimaaHLaw
import Derived.Test.YtnmomkldlajimaaOpenI
import Derived.IntWalk
import Derived.Lib.QuietBelow
namespace Go.Proofs.Ytnmomkldlajimaa
open Go.RowKit Go.Sort

/-- Keys with their places. -/
def mk (ks : List Int) : List Pr := (numb 0 ks).map fun e => (e.1, (e.2 : Int))
theorem mk_len (ks : List Int) : (mk ks).length = ks.length := by unfold mk; rw [List.length_map, numb_len]
theorem mk_snoc (ks : List Int) (x : Int) : mk (ks ++ [x]) = mk ks ++ [(x, (ks.length : Int))] := by
  unfold mk
  rw [numb_snoc, List.map_append, Nat.zero_add]
  rfl
theorem mk_ok (ks : List Int) (hk : ∀ x ∈ ks, -9223372036854775808 ≤ x ∧ x ≤ 9223372036854775807) : ∀ a ∈ mk ks, Ok2 a := by
  intro a ha
  unfold mk at ha
  obtain ⟨e, he, rfl⟩ := List.mem_map.1 ha
  have : e.1 ∈ ks := by
    have := List.mem_map_of_mem (f := fun x : Int × Nat => x.1) he
    rwa [numb_map] at this
  exact ⟨(hk _ this).1, (hk _ this).2⟩
/-- In a numbered list of such pairs the second part is the number. -/
theorem mk_mark (ks : List Int) : ∀ n, ∀ e ∈ numb n ((numb n ks).map fun e : Int × Nat => (e.1, (e.2 : Int))), e.1.2 = (e.2 : Int) := by
  induction ks with
  | nil => intro n e he; cases he
  | cons x r ih =>
    intro n e he
    rcases List.mem_cons.1 he with rfl | he
    · rfl
    · exact ih (n + 1) e he
/-- What stands in a sorted list: none less than the one before, equivalent ones in the order of their marks. -/
theorem sorted_pair {less : Pr → Pr → Bool} (o : IsOrd less) (ks : List Int) {i : Nat} {x y : Pr} (hy : (sortH less (mk ks))[i]? = some y) (hx : (sortH less (mk ks))[i + 1]? = some x) : less x y = false ∧ (less y x = true ∨ (less y x = false ∧ y.2 ≤ x.2)) := by
  obtain ⟨D, h1, h2, h3⟩ := drain_sorted o (pushAll less [] 0 (mk ks)) (pushAll_heap o (mk ks) [] 0 Hp.nil)
  unfold sortH at hx hy
  rw [h1, List.getElem?_map] at hx hy
  obtain ⟨d, hd, rfl⟩ := Option.map_eq_some_iff.1 hy
  obtain ⟨e, he, rfl⟩ := Option.map_eq_some_iff.1 hx
  have hp := pushAll_perm less (mk ks) [] 0
  rw [List.nil_append] at hp
  have mkm := mk_mark ks 0
  have hdm : d.1.2 = (d.2 : Int) := mkm d (hp.subset (h2.subset (List.mem_iff_getElem?.2 ⟨_, hd⟩)))
  have hem : e.1.2 = (e.2 : Int) := mkm e (hp.subset (h2.subset (List.mem_iff_getElem?.2 ⟨_, he⟩)))
  obtain ⟨i1, i2⟩ := List.getElem?_eq_some_iff.1 hd
  obtain ⟨j1, j2⟩ := List.getElem?_eq_some_iff.1 he
  have hn := (List.pairwise_iff_getElem.1 h3) i (i + 1) i1 j1 (by omega)
  rw [i2, j2, nb_iff] at hn
  refine ⟨hn.1, ?_⟩
  cases hyx : less d.1 e.1 with
  | true => exact .inl rfl
  | false =>
    refine .inr ⟨rfl, ?_⟩
    rcases hn.2 with h | h
    · rw [hdm, hem]; omega
    · rw [hyx] at h; cases h
/-- Two lists of the call's own, in blocks of their own. -/
def Two (w : World) (B : Nat) (u v : Value) (l : List Pr) : Prop := OwnP w B u l ∧ OwnP w B v l ∧ ∀ g, u.ownBlock = some g → v.ownBlock ≠ some g
theorem OwnG.other_row {α : Type} {enc : α → List Value} {k : Nat} {T : TypeId} {w w' : World} {base : Nat} {v u : Value} {l : List α} (h : OwnG enc T k w base v l) (hg : w.grownBy w' u.ownBlock) (hne : ∀ g, u.ownBlock = some g → v.ownBlock ≠ some g) : OwnG enc T k w' base v l := by
  refine ⟨h.1, ?_⟩
  rcases h.2 with h0 | ⟨g, cap, cur, hv, hbg, hgg, hr⟩
  · exact Or.inl h0
  · refine Or.inr ⟨g, cap, cur, hv, hbg, (hg.block g (Tag.lt ⟨_, _, hgg⟩) fun e => hne g e.symm (by rw [hv]; rfl)).trans hgg, hr⟩
set_option maxRecDepth 100000 in
set_option maxHeartbeats 1600000 in
theorem sorts_law (m : Int) (v : Value) (ks : List Int) (_ : ks.length ≤ 9223372036854775807) (hk : ∀ x ∈ ks, -9223372036854775808 ≤ x ∧ x ≤ 9223372036854775807) (w : World) (h : LstI w v ks) : Calls Try.prog 4 #[.int .i64 m, v] w fun e w' => e = .returned (.bool true) ∧ Below w.heap.size w w' := by
  obtain ⟨A, c, rfl, _, _, hcell⟩ := h
  have H := Lib.hid hcell
  have HK := Lib.hid (mk_ok ks hk)
  clear hcell hk
  rcases guard3 m ks.length 2 with h0 | ⟨h0, h1⟩ | ⟨h0, h1, h2⟩ | ⟨h0, h1, h2, h3, h4, h5⟩
  · clear H HK
    go_enter Try.func4, Try.ntmps4
    go_wp2_with fail
    refine (ex_any _).mono ?_
    rintro e w1 ⟨rfl, b1⟩
    go_wp2_with fail
    go_ret
    exact ⟨rfl, b1⟩
  · clear H HK
    go_enter Try.func4, Try.ntmps4
    go_wp2_with fail
    refine (ex_any _).mono ?_
    rintro e w1 ⟨rfl, b1⟩
    go_wp2_with fail
    go_ret
    exact ⟨rfl, b1⟩
  · clear H HK
    go_enter Try.func4, Try.ntmps4
    go_wp2_with fail
    refine (ex_any _).mono ?_
    rintro e w1 ⟨rfl, b1⟩
    go_wp2_with fail
    go_ret
    exact ⟨rfl, b1⟩
  · have OM := Lib.hid (ord_mode h3 h4)
    have LS := Lib.hid (fun a b ha hb W => less_mode h3 h4 a b ha hb W)
    go_enter Try.func4, Try.ntmps4
    go_wp2_with fail
    go_loopw [5, 6, 25] (fun u v i wr => ∃ k : Nat, i = .int .i64 (k : Int) ∧ k ≤ ks.length ∧ Hid (Two wr w.heap.size u v (mk (ks.take k))) ∧ Hid (Below w.heap.size w wr)) (fun _ _ i _ => ks.length - (intOf i).toNat)
    case atStart => exact ⟨0, rfl, Nat.zero_le _, ⟨OwnP.at_nil _ _, OwnP.at_nil _ _, fun g hg => by cases hg⟩, Lib.hid (Below.refl _ _)⟩
    case round =>
      obtain ⟨k, rfl, hkl, HT, HB⟩ := hrel
      by_cases hlt : k < ks.length
      · obtain ⟨x, hx⟩ := at_lt hlt
        obtain ⟨b, o, rfl, hb, hc⟩ := H.out (by omega)
        have x0 := (HB.out.cell (p := ⟨b, o + k, none⟩) hb).trans (hc k _ (ints_at ks k x hx))
        have hml : (mk (ks.take k)).length = k := by rw [mk_len, List.length_take]; omega
        have E : Hid (mk (ks.take (k + 1)) = mk (ks.take k) ++ [(x, (k : Int))]) := by
          rw [take_one ks k x hx, mk_snoc, List.length_take, Nat.min_eq_left (by omega)]
          exact rfl
        obtain ⟨A1, c1, hu, -⟩ := ownK_shape HT.out.1
        obtain ⟨A2, c2, hv, -⟩ := ownK_shape HT.out.2.1
        rw [hml] at hu hv
        subst hu
        subst hv
        obtain ⟨z, hz⟩ : ∃ z, mk (ks.take k) = z := ⟨_, rfl⟩
        rw [hz] at HT E hml
        have HZ := Lib.hid hml
        have gk : (k : Int) < (ks.length : Int) := by omega
        have hbs := HB.out.size
        clear hx hc hz hml
        go_wp2_with (at_builtin; refine appG_one pc_len pc_one (by decide) Try.underlying26 info_pr rfl (by decide) _ rfl (.tmp 30) (.tmp 34) rfl w.heap.size _ z (x, (k : Int)) rfl (World.ownsRow.alloc HT.out.1 _) wr.heap.size _ (heap_alloc_new _ _) rfl rfl (by simp; omega) (by rw [HZ.out]; omega) ?_)
        intro v1 w1 own1 b1 g1 wh1
        have g1' : World.grownBy _ w1 (Value.slice A1 k c1).ownBlock := g1
        have wh1' : ∀ g, v1.ownBlock = some g → (Value.slice A1 k c1).ownBlock = some g ∨ g = wr.heap.size + 1 := wh1
        have o2 : OwnP (wr.alloc (.cells #[.int .i64 x, .int .i64 (k : Int)] 28 (0, 0))) w.heap.size (.slice A2 k c2) z := World.ownsRow.alloc HT.out.2.1 _
        have O1 := Lib.hid own1
        have O2 := Lib.hid (o2.other_row g1' HT.out.2.2)
        have AP1 : Hid (∀ g, v1.ownBlock = some g → (Value.slice A2 k c2).ownBlock ≠ some g) := fun g hg hg2 => by
          rcases wh1' g hg with h | h
          · exact HT.out.2.2 g h hg2
          · have := (World.ownsRow.lt HT.out.2.1 g hg2).2
            omega
        have B1 : Hid (Below w.heap.size w w1) := (HB.out.alloc hbs _).trans b1
        have hbs1 := B1.out.size
        clear own1 b1 g1 g1' wh1 wh1' o2 x0 HT HB
        go_wp2_with (at_builtin; refine appG_one pc_len pc_one (by decide) Try.underlying26 info_pr rfl (by decide) _ rfl (.tmp 36) (.tmp 40) rfl w.heap.size _ z (x, (k : Int)) rfl (World.ownsRow.alloc O2.out _) w1.heap.size _ (heap_alloc_new _ _) rfl rfl (by simp; omega) (by rw [HZ.out]; omega) ?_)
        intro v2 w2 own2 b2 g2 wh2
        have g2' : World.grownBy _ w2 (Value.slice A2 k c2).ownBlock := g2
        have wh2' : ∀ g, v2.ownBlock = some g → (Value.slice A2 k c2).ownBlock = some g ∨ g = w1.heap.size + 1 := wh2
        have o1 : OwnP (w1.alloc (.cells #[.int .i64 x, .int .i64 (k : Int)] 28 (0, 0))) w.heap.size v1 (z ++ [(x, (k : Int))]) := World.ownsRow.alloc O1.out _
        have T : Hid (Two w2 w.heap.size v1 v2 (mk (ks.take (k + 1)))) := by
          rw [E.out]
          refine ⟨o1.other_row g2' fun g hg hg2 => AP1.out g hg2 hg, own2, fun g hg hg2 => ?_⟩
          rcases wh2' g hg2 with h | h
          · exact AP1.out g hg h
          · have := (World.ownsRow.lt O1.out g hg).2
            omega
        have B2 : Hid (Below w.heap.size w w2) := (B1.out.alloc hbs1 _).trans b2
        clear own2 b2 g2 g2' wh2 wh2' o1 O1 O2 AP1 B1 E HZ
        go_wp2_with fail
        go_roundw
        case rel => exact ⟨k + 1, by go_num, by omega, T, B2⟩
        case measure => simp [intOf]; omega
      · have hk2 : k = ks.length := by omega
        subst hk2
        rw [List.take_length] at HT
        have dd : decide (ks.length < ks.length) = false := by simp
        have hml := mk_len ks
        obtain ⟨A1, c1, hu, -⟩ := ownK_shape HT.out.1
        obtain ⟨A2, c2, hv, -⟩ := ownK_shape HT.out.2.1
        subst hu
        subst hv
        have HL := Lib.hid (OwnG.lst HT.out.1)
        have HC := Lib.hid (OwnG.lst HT.out.2.1)
        have HM := Lib.hid hml
        clear H HT hml hlt
        go_wp2_with fail
        refine (sorted_any m _ (mk ks) HK.out (by rw [HM.out]; omega) wr HL.out).mono ?_
        rintro e w1 ⟨v1, rfl, o1, b1⟩
        have O1 := Lib.hid (OwnG.lst o1)
        have L1 := Lib.hid (HL.out.below b1)
        have C1 := Lib.hid (HC.out.below b1)
        have B1 : Hid (Below w.heap.size w w1) := HB.out.trans (b1.mono HB.out.size)
        clear o1 b1 HL HC HB
        go_wp2_with fail
        refine (rel (W := w1) (same_any _ _ (mk ks) (by rw [HM.out]; omega) w1 L1.out C1.out) (Below.refl _ _)).mono ?_
        rintro e w2 ⟨rfl, b2⟩
        have O2 := Lib.hid (O1.out.below b2)
        have L2 := Lib.hid (L1.out.below b2)
        have B2 : Hid (Below w.heap.size w w2) := B1.out.trans (b2.mono B1.out.size)
        clear b2 O1 L1 C1 B1
        go_wp2_with fail
        refine (rel (W := w2) (permuted_any _ _ (sortH (lessM m) (mk ks)) (mk ks) (sort_perm _ _) (by rw [sort_len, HM.out]; omega) w2 O2.out L2.out) (Below.refl _ _)).mono ?_
        rintro e w3 ⟨rfl, b3⟩
        have O3 := Lib.hid (O2.out.below b3)
        have B3 : Hid (Below w.heap.size w w3) := B2.out.trans (b3.mono B2.out.size)
        have hsl : (sortH (lessM m) (mk ks)).length = ks.length := by rw [sort_len, HM.out]
        obtain ⟨A3, c3, hv, -⟩ := O3.out
        rw [hsl] at hv
        subst hv
        have HS := Lib.hid hsl
        clear b3 O2 L2 B2 hsl
        go_wp2_with fail
        go_loopw [10] (fun u wr => ∃ k : Nat, u = .int .i64 (k : Int) ∧ 1 ≤ k ∧ Hid (Below w3.heap.size w3 wr)) (fun u _ => ks.length - (intOf u).toNat)
        case atStart => exact ⟨1, rfl, by omega, Lib.hid (Below.refl _ _)⟩
        case round =>
          obtain ⟨k, rfl, hk1, HB⟩ := hrel
          by_cases hlt : k < ks.length
          · obtain ⟨x, hx⟩ := at_lt (l := sortH (lessM m) (mk ks)) (k := k) (by rw [HS.out]; exact hlt)
            obtain ⟨y, hy⟩ := at_lt (l := sortH (lessM m) (mk ks)) (k := k - 1) (by rw [HS.out]; omega)
            have hsp := sorted_pair OM.out ks hy (by rw [Nat.sub_add_cancel hk1]; exact hx)
            have okx := ok_at (fun a ha => HK.out a ((sort_perm (lessM m) (mk ks)).subset ha)) hx
            have oky := ok_at (fun a ha => HK.out a ((sort_perm (lessM m) (mk ks)).subset ha)) hy
            obtain ⟨b, o, d, hv, hb, x0, x1⟩ := LstG.pair O3.out hx
            injection hv with hA hB hC
            subst hA
            subst hC
            obtain ⟨b', o', d', hv', hb', y0, y1⟩ := LstG.pair O3.out hy
            injection hv' with hA' hB' hC'
            cases hA'
            clear hB hB' hC'
            rw [← HB.out.cell (p := ⟨b, _, none⟩) hb] at x0 x1 y0 y1
            have C := LS.out x y okx oky
            have D := LS.out y x oky okx
            rw [hsp.1] at C
            have gk : (k : Int) < (ks.length : Int) := by omega
            have n0 : (0 : Int) ≤ (k : Int) - 1 := by omega
            have n0' : (1 : Int) ≤ (k : Int) := by omega
            have n1 : (k : Int) - 1 < (ks.length : Int) := by omega
            have n2 : ((k : Int) - 1).toNat = k - 1 := by omega
            have EW : Hid (IntKind.i64.wrap ((k : Int) - 1) = (k : Int) - 1) := IntWalk.i64_in _ (by omega)
            have BW : Below w3.heap.size w3 wr := HB.out
            have X0 := fun d os => cell_regrown x0 d os
            have X1 := fun d os => cell_regrown x1 d os
            have Y0 := fun d os => cell_regrown y0 d os
            have Y1 := fun d os => cell_regrown y1 d os
            clear hx hy okx oky x0 x1 y0 y1 hb hb' HB
            have WB := Lib.hid BW
            clear BW
            have CC := Lib.hid (fun d os => Calls.regrown_of (w := wr) (d := d) (os := os) (C _))
            clear C
            rcases hsp with ⟨-, hyx | ⟨hyx, hm⟩⟩
            · rw [hyx] at D
              have DD := Lib.hid (fun d os => Calls.regrown_of (w := wr) (d := d) (os := os) (D _))
              clear D hyx
              go_wp2_with fail
              refine wp_region_quiet_below (by kernel_rfl) (by kernel_rfl) ?_
              have ew := EW.out
              repeat (go_big_quiet_step (first | with_reducible exact CC.out _ _ | with_reducible exact DD.out _ _))
              refine wpQuiet_nil ?_
              intro w4 hw4
              have B4 : Hid (Below w3.heap.size w3 w4) := by
                obtain ⟨p, rfl⟩ := hw4
                exact WB.out.trans ((below_regrown wr p.d p.os).mono WB.out.size)
              clear hw4 X0 X1 Y0 Y1 CC DD WB ew n0 n1 n2
              go_wp2_with fail
              go_roundw
              case rel => exact ⟨k + 1, by go_num, by omega, B4⟩
              case measure => simp [intOf]; omega
            · rw [hyx] at D
              have DD := Lib.hid (fun d os => Calls.regrown_of (w := wr) (d := d) (os := os) (D _))
              have hd : decide (x.2 < y.2) = false := decide_eq_false (by omega)
              clear D hyx hm
              go_wp2_with fail
              refine wp_region_quiet_below (by kernel_rfl) (by kernel_rfl) ?_
              have ew := EW.out
              repeat (go_big_quiet_step (first | with_reducible exact CC.out _ _ | with_reducible exact DD.out _ _))
              refine wpQuiet_nil ?_
              intro w4 hw4
              have B4 : Hid (Below w3.heap.size w3 w4) := by
                obtain ⟨p, rfl⟩ := hw4
                exact WB.out.trans ((below_regrown wr p.d p.os).mono WB.out.size)
              clear hw4 X0 X1 Y0 Y1 CC DD WB ew n0 n1 n2
              go_wp2_with fail
              go_roundw
              case rel => exact ⟨k + 1, by go_num, by omega, B4⟩
              case measure => simp [intOf]; omega
          · have dd2 : decide (k < ks.length) = false := decide_eq_false hlt
            clear hlt
            go_wp2_with fail
            have BB : Below w.heap.size w wr := B3.out.trans (HB.out.mono B3.out.size)
            refine (rel (W := w) (ex_any _) BB).mono ?_
            rintro e w7 ⟨rfl, b7⟩
            clear BB
            go_wp2_with fail
            go_ret
            exact ⟨rfl, b7⟩
end Go.Proofs.Ytnmomkldlajimaa
