/-
  The reference's times: a matrix that tells the shortest walks: what the call answers; nothing that existed before the call has changed behind it. Condition: valid lists of at most 100000 footpaths, at most 64 stops.
-/
import Derived.Test.YtibakhobgfiklaaFpS
import Derived.Test.YtibakhobgfiklaaGsl
import Derived.BigRegion
namespace Go.Proofs.Ytibakhobgfiklaa
open Go.RowKit

/-! ### A square matrix in memory -/
theorem mg_row {n : Nat} {m : List (List Int)} (h : Sq n m) {i : Nat} (hi : i < n) : ∃ g, m[i]? = some g ∧ g.length = n ∧ (∀ j, j < n → g[j]? = some (mg m i j)) ∧ ∀ j v, ms m i j v = m.set i (g.set j v) := by
  obtain ⟨g, hg, hl, hm⟩ := sq_row h hi
  refine ⟨g, hg, hl, fun j hj => ?_, fun j v => ?_⟩
  · rw [hm j, List.getD_eq_getElem?_getD]
    obtain ⟨x, hx⟩ := at_lt (l := g) (k := j) (by omega)
    rw [hx]
    rfl
  · unfold ms
    rw [List.getD_eq_getElem?_getD, hg]
    rfl
/-- The cells of an entry. -/
theorem Gs.one {w : World} {base : Nat} {A : Option Addr} {n c : Nat} {ts : List SlT} {m : List (List Int)} (h : Gs w base (.slice A n c) ts m) (hq : Sq n m) {i j : Nat} (hi : i < n) (hj : j < n) :
    ∃ gb b k, A = some ⟨gb, 0, none⟩ ∧ base ≤ b ∧ w.cell? ⟨gb, i, none⟩ = some (.slice (some ⟨b, 0, none⟩) n k) ∧ w.cell? ⟨b, j, none⟩ = some (.int .i64 (mg m i j)) ∧ w.frozen? ⟨b, j, none⟩ = false ∧ ts[i]? = some (some ⟨b, 0, none⟩, n, k) ∧ ∀ v, Gs (w.setCell ⟨b, j, none⟩ (.int .i64 v)) base (.slice A n c) ts (ms m i j v) := by
  obtain ⟨g, hg, hl, hx, hs⟩ := mg_row hq hi
  obtain ⟨-, gb, b, k, hA, -, -, hb, -, -, ht, c1, c2, f2⟩ := h.cell hg (hx j hj)
  rw [hl] at ht c1
  refine ⟨gb, b, k, hA, hb, c1, c2, f2, ht, fun v => ?_⟩
  rw [hs j v]
  exact h.put (by rw [hl]; exact ht) hg j v
/-- The cells of three entries. -/
theorem Gs.three {w : World} {base : Nat} {A : Option Addr} {n c : Nat} {ts : List SlT} {m : List (List Int)} (h : Gs w base (.slice A n c) ts m) (hq : Sq n m) {i j k : Nat} (hi : i < n) (hj : j < n) (hk : k < n) :
    ∃ gb b d q r, A = some ⟨gb, 0, none⟩ ∧ base ≤ b ∧ w.cell? ⟨gb, i, none⟩ = some (.slice (some ⟨b, 0, none⟩) n q) ∧ w.cell? ⟨gb, k, none⟩ = some (.slice (some ⟨d, 0, none⟩) n r) ∧ w.cell? ⟨b, k, none⟩ = some (.int .i64 (mg m i k)) ∧ w.cell? ⟨d, j, none⟩ = some (.int .i64 (mg m k j)) ∧ w.cell? ⟨b, j, none⟩ = some (.int .i64 (mg m i j)) ∧ w.frozen? ⟨b, j, none⟩ = false ∧
      ∀ v, Gs (w.setCell ⟨b, j, none⟩ (.int .i64 v)) base (.slice A n c) ts (ms m i j v) := by
  obtain ⟨gb, b, q, hA, hb, c1, c2, f2, t1, hp⟩ := h.one hq hi hj
  obtain ⟨gb', b', q', hA', -, -, c4, -, t2, -⟩ := h.one hq hi hk
  obtain ⟨gb2, d, r, hA2, -, c5, c6, -, -, -⟩ := h.one hq hk hj
  subst hA
  cases hA'
  cases hA2
  rw [t1] at t2
  cases t2
  exact ⟨gb, b, d, q, r, rfl, hb, c1, c5, c4, c6, c2, f2, hp⟩
theorem rep_succ (k : Nat) : List.replicate (k + 1) farN = List.replicate k farN ++ [farN] := List.replicate_succ'
theorem repr_succ (n i : Nat) : List.replicate (i + 1) (List.replicate n farN) = List.replicate i (List.replicate n farN) ++ [List.replicate n farN] := List.replicate_succ'
/-- The times of the edges so far, in memory. -/
def TmM (w : World) (base : Nat) (A : Option Addr) (n c : Nat) (ts : List SlT) (E : List Ed) : Prop := ∃ m, FwE E n m ∧ Gs w base (.slice A n c) ts m
def TmR (w : World) (base : Nat) (A : Option Addr) (n c : Nat) (ts : List SlT) (E : List Ed) (k : Nat) (P : Nat → Nat → Prop) : Prop := ∃ m, FwS E n k P m ∧ Gs w base (.slice A n c) ts m
set_option maxRecDepth 100000 in
set_option maxHeartbeats 8000000 in
theorem rtimes_any (v : Value) (l : List Fp) (hl : l.length ≤ 100000) (st : Int) (hst : st ≤ 64) (hok : OkP st.toNat l) (sf : Bool) (w : World) (h : LstF w v l) :
    Calls Try.prog 40 #[v, .int .i64 st, .bool sf] w fun e w' => ∃ v' m, e = .returned v' ∧ LL w' v' m ∧ RowKit.Below w.heap.size w w' ∧ FwS (edF sf l) st.toNat st.toNat noP m := by
  have hh := h
  obtain ⟨A0, c0, rfl, -⟩ := hh
  have H := Lib.hid h
  obtain ⟨n, hn⟩ : ∃ n, st.toNat = n := ⟨_, rfl⟩
  rw [hn] at hok ⊢
  have HOK := Lib.hid hok
  have HN : Hid (∀ i : Nat, ((i : Int) < st ↔ i < n)) := Lib.hid fun i => by omega
  have n64 : n ≤ 64 := by omega
  clear h hn hok
  go_enter Try.func40, Try.ntmps40
  go_wp2_with fail
  go_loopw [7, 8] (fun u i wr => ∃ (k : Nat) (ts : List SlT), i = .int .i64 (k : Int) ∧ k ≤ n ∧ Hid (Gs wr w.heap.size u ts (List.replicate k (List.replicate n farN))) ∧ Hid (RowKit.Below w.heap.size w wr)) (fun _ i _ => n - (intOf i).toNat)
  case atStart => exact ⟨0, [], rfl, Nat.zero_le _, Lib.hid (Gs.nil _ _), Lib.hid (RowKit.Below.refl _ _)⟩
  case round =>
    obtain ⟨k, ts, rfl, hk, HG, HB⟩ := hrel
    by_cases hlt : (k : Int) < st
    · as_aux_lemma =>
      have hkn := (HN.out k).1 hlt
      have KN := Lib.hid hkn
      obtain ⟨w2, rfl⟩ : ∃ W, W = wr := ⟨_, rfl⟩
      have B0 : Hid (OwnI w2 w2.heap.size (.slice none 0 0) (List.replicate 0 farN)) := Lib.hid (OwnI.nil _ _)
      clear hkn
      go_wp2_with fail
      go_loopw [9, 10] (fun x j wx => ∃ q : Nat, j = .int .i64 (q : Int) ∧ q ≤ n ∧ Hid (OwnI wx w2.heap.size x (List.replicate q farN)) ∧ Hid (RowKit.Below w2.heap.size w2 wx)) (fun _ j _ => n - (intOf j).toNat)
      case atStart => exact ⟨0, rfl, Nat.zero_le _, B0, Lib.hid (RowKit.Below.refl _ _)⟩
      case round =>
        clear B0
        obtain ⟨q, rfl, hq, HO, HX⟩ := hrel
        by_cases hlq : (q : Int) < st
        · have hqn := (HN.out q).1 hlq
          have QN := Lib.hid hqn
          have hz := HX.out.size
          clear hqn
          go_wp2_with (at_builtin; refine app_int _ rfl (.tmp 25) (.tmp 26) rfl _ _ (List.replicate q farN) farN rfl (World.ownsRow.alloc HO.out _) _ _ (heap_alloc_new _ _) rfl rfl (by simp; omega) (by rw [List.length_replicate]; omega) ?_; intro u2 w10 own10 b10; refine Hid.out ?_)
          refine Lib.hid ?_
          rw [← rep_succ] at own10
          have O10 := Lib.hid own10
          have X10 := Lib.hid ((HX.out.alloc hz _).trans b10)
          clear own10 b10 HO HX hz
          go_wp2_with fail
          go_roundw
          case rel => exact ⟨q + 1, by go_num, QN.out, O10, X10⟩
          case measure => have := QN.out; simp [intOf]; omega
        · have dq : decide ((q : Int) < st) = false := decide_eq_false hlq
          have hqn : q = n := by
            have := (HN.out q)
            rcases Nat.lt_or_ge q n with h1 | h1
            · exact absurd (this.2 h1) hlq
            · omega
          have ho := HO.out
          rw [hqn] at ho
          obtain ⟨A9, c9, hv9⟩ := own_shape' ho
          rw [List.length_replicate] at hv9
          subst hv9
          obtain ⟨w8, hw8⟩ : ∃ W, wr.alloc (.cells #[.slice A9 n c9] 39 (0, 0)) = W := ⟨_, rfl⟩
          have b8 : RowKit.Below wr.heap.size wr w8 := by rw [← hw8]; exact (RowKit.Below.refl _ _).alloc (Nat.le_refl _) _
          have c8 : w8.heap[wr.heap.size]? = some (.cells #[.slice A9 n c9] 39 (0, 0)) := by rw [← hw8]; exact heap_alloc_new _ _
          have x8 := HX.out.trans (b8.mono HX.out.size)
          have G8 := Lib.hid (HG.out.below x8)
          have B8 := Lib.hid (HB.out.trans (x8.mono HB.out.size))
          have O8 : Hid (OwnI w8 w2.heap.size (svV (A9, n, c9)) (List.replicate n farN)) := Lib.hid (ho.below b8)
          have hz8 := B8.out.size
          have LOW : Hid (∀ (i : Nat) u, ts[i]? = some u → ∀ b, (svV u).ownBlock = some b → b < w2.heap.size) := by
            intro i u hu b hb
            obtain ⟨g, hg⟩ := at_lt (l := List.replicate k (List.replicate n farN)) (k := i) (by rw [← HG.out.len]; exact (List.getElem?_eq_some_iff.1 hu).1)
            exact (own_type (HG.out.rows i u g hu hg) hb).2.1
          have tl : ts.length = k := by have := HG.out.len; rw [List.length_replicate] at this; exact this
          have HZ2 : Hid (w.heap.size ≤ w2.heap.size) := HB.out.size
          clear ho b8 x8 HO HX hlq hqn
          go_wp2_with (at_builtin; refine appG_one sv_len sv_one (by decide) Try.underlying57 info_sl rfl (by decide) _ rfl (.tmp 28) (.tmp 30) rfl w.heap.size _ ts (A9, n, c9) rfl G8.out.row _ _ c8 rfl rfl hz8 (by omega) ?_; intro u3 w11 own11 b11 gr11 wh11; refine Hid.out ?_)
          refine Lib.hid ?_
          have G11 := Gs.snoc G8.out HZ2.out LOW.out O8.out own11 gr11
          rw [← repr_succ] at G11
          have G := Lib.hid G11
          have B11 := Lib.hid (B8.out.trans b11)
          clear own11 b11 gr11 wh11 G11 G8 B8 O8 LOW hw8 c8 tl HG HB hz8
          go_wp2_with fail
          go_roundw
          case rel => exact ⟨k + 1, _, by go_num, KN.out, G, B11⟩
          case measure => have := KN.out; simp [intOf]; omega
    · have dk : decide ((k : Int) < st) = false := decide_eq_false hlt
      have hkn : k = n := by
        rcases Nat.lt_or_ge k n with h1 | h1
        · exact absurd ((HN.out k).2 h1) hlt
        · omega
      have hg := HG.out
      rw [hkn] at hg
      obtain ⟨A, c, hv⟩ := hg.ll.len
      rw [List.length_replicate] at hv
      subst hv
      have T0 : Hid (TmM wr w.heap.size A n c ts (edF sf (l.take 0))) := ⟨farM n, FwE.start n, hg⟩
      clear hlt hkn hg HG
      go_wp2_with fail
      go_loopw [11] (fun i wr => ∃ e : Nat, i = .int .i64 (e : Int) ∧ e ≤ l.length ∧ Hid (TmM wr w.heap.size A n c ts (edF sf (l.take e))) ∧ Hid (RowKit.Below w.heap.size w wr)) (fun i _ => l.length - (intOf i).toNat)
      case atStart => exact ⟨0, rfl, Nat.zero_le _, T0, HB⟩
      case round =>
        clear T0 HB
        obtain ⟨e, rfl, he, HT, HB⟩ := hrel
        by_cases hle : e < l.length
        · as_aux_lemma =>
          obtain ⟨⟨xa, xb, xs, f⟩, hx⟩ := at_lt hle
          have ok := HOK.out _ (List.mem_iff_getElem?.2 ⟨e, hx⟩)
          simp only at ok
          obtain ⟨a, rfl⟩ : ∃ a : Nat, xa = (a : Int) := ⟨xa.toNat, by omega⟩
          obtain ⟨b, rfl⟩ : ∃ b : Nat, xb = (b : Int) := ⟨xb.toNat, by omega⟩
          obtain ⟨s, rfl⟩ : ∃ s : Nat, xs = (s : Int) := ⟨xs.toNat, by omega⟩
          have han : a < n := by omega
          have hbn : b < n := by omega
          obtain ⟨bl, o, rfl, -, x0, x1, x2, x3⟩ := four_at (H.out.below HB.out) hx
          have gi : (e : Int) < (l.length : Int) := by omega
          cases hu : (f || !sf) with
          | false =>
            have N : Hid (TmM wr w.heap.size A n c ts (edF sf (l.take (e + 1)))) := by
              show TmM _ _ _ _ _ _ _
              rw [ed_no hx (show useP sf ((a : Int), (b : Int), (s : Int), f) = false from hu)]
              exact HT.out
            obtain ⟨rfl, rfl⟩ : f = false ∧ sf = true := by cases f <;> cases sf <;> simp at hu <;> exact ⟨rfl, rfl⟩
            have NQ : Hid (∀ q, TmM (wr.drewN q) w.heap.size A n c ts (edF true (l.take (e + 1)))) := Lib.hid fun q => by
              obtain ⟨m, h1, h2⟩ := N.out
              exact ⟨m, h1, h2.below (below_drewN (RowKit.Below.refl _ _) q)⟩
            clear hx ok hu HT N
            go_wp2_with fail
            go_quiet (fail)
            have BQ := Lib.hid (below_drewN HB.out nq)
            have N2 := Lib.hid (NQ.out nq)
            generalize wr.drewN nq = w4 at BQ N2 ⊢
            clear HB NQ x0 x1 x2 x3
            go_wp2_with fail
            go_roundw
            case rel => exact ⟨e + 1, by go_num, by omega, N2, BQ⟩
            case measure => simp [intOf]; omega
          | true =>
            obtain ⟨m, hm, hg⟩ := HT.out
            obtain ⟨gb, br, kr, rfl, hbr, c1, c2, f2, -, hput⟩ := hg.one hm.sq han hbn
            have ed := ed_yes hx (show useP sf ((a : Int), (b : Int), (s : Int), f) = true from hu)
            have edp : edP ((a : Int), (b : Int), (s : Int), f) = (a, b, s) := by unfold edP; simp
            rw [edp] at ed
            obtain ⟨r, hr⟩ : ∃ r, mg m a b = r := ⟨_, rfl⟩
            rw [hr] at c2
            have ga : (a : Int) < (n : Int) := by omega
            have gb' : (b : Int) < (n : Int) := by omega
            have hfs : f = true ∨ (f = false ∧ sf = false) := by cases f <;> cases sf <;> simp at hu <;> simp
            by_cases hlt : (s : Int) < r
            · have N0 := FwE.put hm han hbn (s := s) (by rw [hr]; exact hlt)
              rw [← ed] at N0
              have NQ : Hid (∀ q, (wr.drewN q).cell? ⟨gb, a, none⟩ = some (.slice (some ⟨br, 0, none⟩) n kr) ∧ (wr.drewN q).cell? ⟨br, b, none⟩ = some (.int .i64 r) ∧ (wr.drewN q).frozen? ⟨br, b, none⟩ = false ∧ RowKit.Below w.heap.size w ((wr.drewN q).setCell ⟨br, b, none⟩ (.int .i64 (s : Int))).drew ∧ TmM ((wr.drewN q).setCell ⟨br, b, none⟩ (.int .i64 (s : Int))).drew w.heap.size (some ⟨gb, 0, none⟩) n c ts (edF sf (l.take (e + 1)))) := Lib.hid fun q => by
                have hg2 := hg.below (below_drewN (RowKit.Below.refl _ _) q)
                obtain ⟨gb2, br2, kr2, e2, -, c12, c22, f22, t22, hput2⟩ := hg2.one hm.sq han hbn
                obtain ⟨_, _, _, e3, -, c13, -, -, t23, -⟩ := hg.one hm.sq han hbn
                cases e2
                have : br2 = br ∧ kr2 = kr := by
                  have h1 : (wr.drewN q).cell? ⟨gb, a, none⟩ = some (.slice (some ⟨br, 0, none⟩) n kr) := c1
                  rw [c12] at h1
                  injection h1 with h1
                  injection h1 with h2 h3 h4
                  injection h2 with h2
                  injection h2 with h2
                  exact ⟨h2, h4⟩
                obtain ⟨rfl, rfl⟩ := this
                rw [hr] at c22
                exact ⟨c12, c22, f22, ((below_drewN HB.out q).setCell hbr _).drew, _, N0, (hput2 (s : Int)).below (RowKit.Below.refl _ _).drew⟩
              have X := Lib.hid (fun q => four_at ((H.out.below HB.out).below (below_drewN (RowKit.Below.refl _ _) q)) hx)
              clear hx ok HT hm hg hput N0 ed edp hr hu
              rcases hfs with rfl | ⟨rfl, rfl⟩
              all_goals
                go_wp2_with fail
                go_quiet (fail)
                obtain ⟨c1, c2, f2, b4, t4⟩ := NQ.out nq
                obtain ⟨_, _, hA, -, x0, x1, x2, x3⟩ := X.out nq
                cases hA
                have B4 := Lib.hid b4
                have T4 := Lib.hid t4
                generalize wr.drewN nq = w4 at B4 T4 c1 c2 f2 x0 x1 x2 x3 ⊢
                clear HB NQ X b4 t4
                go_wp2_with fail
                go_region
                go_wp2_with fail
                go_roundw
                case rel => exact ⟨e + 1, by go_num, by omega, T4, B4⟩
                case measure => simp [intOf]; omega
            · have d : decide ((s : Int) < r) = false := decide_eq_false hlt
              have N0 := FwE.keep hm (a := a) (b := b) (s := s) (by rw [hr]; exact hlt)
              rw [← ed] at N0
              have NQ : Hid (∀ q, TmM (wr.drewN q) w.heap.size (some ⟨gb, 0, none⟩) n c ts (edF sf (l.take (e + 1)))) := Lib.hid fun q => ⟨m, N0, hg.below (below_drewN (RowKit.Below.refl _ _) q)⟩
              clear hx ok HT hm hg hput N0 ed edp hr hu hlt
              rcases hfs with rfl | ⟨rfl, rfl⟩
              all_goals
                go_wp2_with fail
                go_quiet (fail)
                have BQ := Lib.hid (below_drewN HB.out nq)
                have N2 := Lib.hid (NQ.out nq)
                generalize wr.drewN nq = w4 at BQ N2 ⊢
                clear HB NQ x0 x1 x2 x3 c1 c2 f2
                go_wp2_with fail
                go_roundw
                case rel => exact ⟨e + 1, by go_num, by omega, N2, BQ⟩
                case measure => simp [intOf]; omega
        · have de : decide (e < l.length) = false := by rw [decide_eq_false_iff_not]; exact hle
          have T0 : Hid (TmR wr w.heap.size A n c ts (edF sf l) 0 noP) := by
            obtain ⟨m, h1, h2⟩ := HT.out
            rw [List.take_of_length_le (show l.length ≤ e by omega)] at h1
            exact ⟨m, h1.begin, h2⟩
          clear hle HT
          go_wp2_with fail
          go_loopw [12] (fun i wr => ∃ k : Nat, i = .int .i64 (k : Int) ∧ k ≤ n ∧ Hid (TmR wr w.heap.size A n c ts (edF sf l) k noP) ∧ Hid (RowKit.Below w.heap.size w wr)) (fun i _ => n - (intOf i).toNat)
          case atStart => exact ⟨0, rfl, Nat.zero_le _, T0, HB⟩
          case round =>
            clear T0 HB
            obtain ⟨k, rfl, hk, HT, HB⟩ := hrel
            by_cases hlk : (k : Int) < st
            · as_aux_lemma =>
              have KN := Lib.hid ((HN.out k).1 hlk)
              have T0 : Hid (TmR wr w.heap.size A n c ts (edF sf l) k (uptoP 0 0)) := by
                obtain ⟨m, h1, h2⟩ := HT.out
                exact ⟨m, h1.begin, h2⟩
              clear HT
              go_wp2_with fail
              go_loopw [13] (fun i wr => ∃ a : Nat, i = .int .i64 (a : Int) ∧ a ≤ n ∧ Hid (TmR wr w.heap.size A n c ts (edF sf l) k (uptoP a 0)) ∧ Hid (RowKit.Below w.heap.size w wr)) (fun i _ => n - (intOf i).toNat)
              case atStart => exact ⟨0, rfl, Nat.zero_le _, T0, HB⟩
              case round =>
                clear T0 HB
                obtain ⟨a, rfl, ha, HT, HB⟩ := hrel
                by_cases hla : (a : Int) < st
                · as_aux_lemma =>
                  have AN := Lib.hid ((HN.out a).1 hla)
                  go_wp2_with fail
                  go_loopw [14] (fun i wr => ∃ b : Nat, i = .int .i64 (b : Int) ∧ b ≤ n ∧ Hid (TmR wr w.heap.size A n c ts (edF sf l) k (uptoP a b)) ∧ Hid (RowKit.Below w.heap.size w wr)) (fun i _ => n - (intOf i).toNat)
                  case atStart => exact ⟨0, rfl, Nat.zero_le _, HT, HB⟩
                  case round =>
                    clear HT HB
                    obtain ⟨b, rfl, hb, HT, HB⟩ := hrel
                    by_cases hlb : (b : Int) < st
                    · have hbn := (HN.out b).1 hlb
                      have BN := Lib.hid hbn
                      obtain ⟨m, hm, hg⟩ := HT.out
                      obtain ⟨gb, br, dr, kr, kd, rfl, hbr, c1, c2, c3, c4, c5, f5, hput⟩ := hg.three hm.sq AN.out hbn KN.out
                      have p1 := hm.top a k AN.out KN.out
                      have p2 := hm.low a k AN.out KN.out
                      have p3 := hm.top k b KN.out hbn
                      have p4 := hm.low k b KN.out hbn
                      have gk : (k : Int) < (n : Int) := by have := KN.out; omega
                      have ga : (a : Int) < (n : Int) := by have := AN.out; omega
                      have gb' : (b : Int) < (n : Int) := by omega
                      obtain ⟨p, hp⟩ : ∃ p, mg m a k = p := ⟨_, rfl⟩
                      obtain ⟨q, hq⟩ : ∃ q, mg m k b = q := ⟨_, rfl⟩
                      obtain ⟨r, hr⟩ : ∃ r, mg m a b = r := ⟨_, rfl⟩
                      have hP := fun hlt => FwS.put hm AN.out hbn KN.out hlt
                      have hK := fun hlt => FwS.keep hm AN.out hbn KN.out hlt
                      rw [hp, hq, hr] at hP hK
                      rw [hp] at c3 p1 p2
                      rw [hq] at c4 p3 p4
                      rw [hr] at c5
                      have ws : IntKind.i64.wrap (p + q) = p + q := by rw [IntKind.wrap_i64]; unfold farN at *; omega
                      clear hp hq hr hb
                      by_cases hlt : p + q < r
                      · have N0 := hP hlt
                        have NQ : Hid (∀ z, RowKit.Below w.heap.size w ((wr.drewN z).setCell ⟨br, b, none⟩ (.int .i64 (p + q))).drew ∧ TmR ((wr.drewN z).setCell ⟨br, b, none⟩ (.int .i64 (p + q))).drew w.heap.size (some ⟨gb, 0, none⟩) n c ts (edF sf l) k (uptoP a (b + 1))) := Lib.hid fun z =>
                          ⟨((below_drewN HB.out z).setCell hbr _).drew, _, N0, (hput (p + q)).keep (fun _ _ _ => rfl)⟩
                        have CQ : Hid (∀ z, (wr.drewN z).cell? ⟨gb, a, none⟩ = some (.slice (some ⟨br, 0, none⟩) n kr) ∧ (wr.drewN z).cell? ⟨gb, k, none⟩ = some (.slice (some ⟨dr, 0, none⟩) n kd) ∧ (wr.drewN z).cell? ⟨br, k, none⟩ = some (.int .i64 p) ∧ (wr.drewN z).cell? ⟨dr, b, none⟩ = some (.int .i64 q) ∧ (wr.drewN z).cell? ⟨br, b, none⟩ = some (.int .i64 r) ∧ (wr.drewN z).frozen? ⟨br, b, none⟩ = false) := Lib.hid fun z => ⟨c1, c2, c3, c4, c5, f5⟩
                        clear hP hK N0 HT hm hg hput f5 hbr
                        go_wp2_with fail
                        go_quiet (fail)
                        obtain ⟨b4, t4⟩ := NQ.out nq
                        obtain ⟨c1, c2, c3, c4, c5, f5⟩ := CQ.out nq
                        have B4 := Lib.hid b4
                        have T4 := Lib.hid t4
                        generalize wr.drewN nq = w4 at B4 T4 c1 c2 c3 c4 c5 f5 ⊢
                        clear HB NQ CQ b4 t4
                        go_wp2_with fail
                        go_region
                        go_wp2_with fail
                        go_roundw
                        case rel => exact ⟨b + 1, by go_num, BN.out, T4, B4⟩
                        case measure => have := BN.out; simp [intOf]; omega
                      · have d : decide (p + q < r) = false := decide_eq_false hlt
                        have N0 := hK hlt
                        have NQ : Hid (∀ z, TmR (wr.drewN z) w.heap.size (some ⟨gb, 0, none⟩) n c ts (edF sf l) k (uptoP a (b + 1))) := Lib.hid fun z => ⟨m, N0, hg.below (below_drewN (RowKit.Below.refl _ _) z)⟩
                        clear hP hK N0 HT hm hg hput f5 hbr hlt
                        go_wp2_with fail
                        go_quiet (fail)
                        have BQ := Lib.hid (below_drewN HB.out nq)
                        have N2 := Lib.hid (NQ.out nq)
                        generalize wr.drewN nq = w4 at BQ N2 ⊢
                        clear HB NQ c1 c2 c3 c4 c5
                        go_wp2_with fail
                        go_roundw
                        case rel => exact ⟨b + 1, by go_num, BN.out, N2, BQ⟩
                        case measure => have := BN.out; simp [intOf]; omega
                    · have db : decide ((b : Int) < st) = false := decide_eq_false hlb
                      have hbn : b = n := by
                        rcases Nat.lt_or_ge b n with h1 | h1
                        · exact absurd ((HN.out b).2 h1) hlb
                        · omega
                      have T1 : Hid (TmR wr w.heap.size A n c ts (edF sf l) k (uptoP (a + 1) 0)) := by
                        obtain ⟨m, h1, h2⟩ := HT.out
                        rw [hbn] at h1
                        exact ⟨m, h1.nextRow, h2⟩
                      clear hlb hbn HT
                      go_wp2_with fail
                      go_roundw
                      case rel => exact ⟨a + 1, by go_num, AN.out, T1, HB⟩
                      case measure => have := AN.out; simp [intOf]; omega
                · have da : decide ((a : Int) < st) = false := decide_eq_false hla
                  have han : a = n := by
                    rcases Nat.lt_or_ge a n with h1 | h1
                    · exact absurd ((HN.out a).2 h1) hla
                    · omega
                  have T1 : Hid (TmR wr w.heap.size A n c ts (edF sf l) (k + 1) noP) := by
                    obtain ⟨m, h1, h2⟩ := HT.out
                    rw [han] at h1
                    exact ⟨m, h1.nextNode, h2⟩
                  clear hla han HT
                  go_wp2_with fail
                  go_roundw
                  case rel => exact ⟨k + 1, by go_num, KN.out, T1, HB⟩
                  case measure => have := KN.out; simp [intOf]; omega
            · have dk : decide ((k : Int) < st) = false := decide_eq_false hlk
              have hkn : k = n := by
                rcases Nat.lt_or_ge k n with h1 | h1
                · exact absurd ((HN.out k).2 h1) hlk
                · omega
              have K : Hid (∃ m, LL wr (.slice A n c) m ∧ RowKit.Below w.heap.size w wr ∧ FwS (edF sf l) n n noP m) := by
                obtain ⟨m, h1, h2⟩ := HT.out
                rw [hkn] at h1
                exact ⟨m, h2.ll, HB.out, h1⟩
              clear hlk hkn HT HB
              go_wp2_with fail
              go_ret
              obtain ⟨m, k1⟩ := K.out
              exact ⟨_, m, rfl, k1⟩
end Go.Proofs.Ytibakhobgfiklaa
