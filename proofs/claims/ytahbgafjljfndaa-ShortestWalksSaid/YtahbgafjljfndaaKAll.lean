/-
  Lists of lists of ints; the program's All: what the call answers; nothing that existed before the call has changed behind it. Condition: lists of fewer than 2^63 edges.
-/
import Derived.Test.YtahbgafjljfndaaKTop
namespace Go.Proofs.Ytahbgafjljfndaa
open Go.RowKit

/-! ### Slices of slices -/
/-- A slice: its array, its length, its capacity. -/
abbrev SlT := Option Addr × Nat × Nat
def svV (t : SlT) : Value := .slice t.1 t.2.1 t.2.2
def sv (t : SlT) : List Value := [svV t]
theorem sv_len (t : SlT) : (sv t).length = 1 := rfl
theorem sv_one (t : SlT) : ∀ u ∈ sv t, u.oneCell' = true := by
  intro u hu
  simp [sv, svV] at hu
  subst hu
  rfl
theorem info_sl : (Try.prog.info? 25).map (fun i => (i.zero, i.size, i.bytes)) = some (some (.slice none 0 0), 1, 24) := by kernel_rfl
theorem fl_sv (l : List SlT) : fl sv l = l.map svV := by
  induction l with
  | nil => rfl
  | cons a r ih => rw [fl_cons, ih]; rfl
abbrev OwnL := @OwnG SlT sv 25 1
theorem OwnL.putn {w : World} {base g c n : Nat} {l : List SlT} (hl : l.length = n) (h : OwnL w base (.slice (some ⟨g, 0, none⟩) n c) l) (i : Nat) (t : SlT) : OwnL (w.setCell ⟨g, i, none⟩ (svV t)) base (.slice (some ⟨g, 0, none⟩) n c) (l.set i t) := by
  subst hl
  have h1 := (World.ownsRow.stored h i (svV t)).1
  have e : (fl sv l).set i (svV t) = fl sv (l.set i t) := by rw [fl_sv, fl_sv, List.map_set]
  rw [e] at h1
  show World.ownsRow _ base _ 1 _ (l.set i t).length _
  rw [List.length_set]
  exact h1
theorem OwnL.atn {w : World} {base g c n : Nat} {l : List SlT} (hl : l.length = n) (h : OwnL w base (.slice (some ⟨g, 0, none⟩) n c) l) {i : Nat} {t : SlT} (ht : l[i]? = some t) : w.cell? ⟨g, i, none⟩ = some (svV t) ∧ w.frozen? ⟨g, i, none⟩ = false := by
  subst hl
  have hi := (List.getElem?_eq_some_iff.1 ht).1
  refine ⟨?_, World.ownsRow.frozenAt h _⟩
  rw [World.ownsRow.cellAt h _ (by omega), fl_sv, List.getElem?_map, ht]
  rfl
/-- The value is a slice of slices that reads as these lists. -/
def LL (w : World) (u : Value) (ls : List (List Int)) : Prop := ∃ ts : List SlT, LstG sv w u ts ∧ ts.length = ls.length ∧ ∀ (i : Nat) t l, ts[i]? = some t → ls[i]? = some l → LstI w (svV t) l
theorem LL.below {w w' : World} {u : Value} {ls : List (List Int)} (h : LL w u ls) (hb : Below w.heap.size w w') : LL w' u ls := by
  obtain ⟨ts, h1, h2, h3⟩ := h
  exact ⟨ts, h1.below hb, h2, fun i t l ht hl => (h3 i t l ht hl).below hb⟩
theorem LL.nil (w : World) : LL w (.slice none 0 0) [] := ⟨[], LstG.nil _ _, rfl, fun i t l ht => by simp at ht⟩
/-- An element. -/
theorem LL.at {w : World} {A : Option Addr} {n c : Nat} {ls : List (List Int)} (h : LL w (.slice A n c) ls) {i : Nat} {l : List Int} (hl : ls[i]? = some l) : n = ls.length ∧ ∃ b o t, A = some ⟨b, o, none⟩ ∧ b < w.heap.size ∧ w.cell? ⟨b, o + i, none⟩ = some (svV t) ∧ LstI w (svV t) l := by
  obtain ⟨ts, ⟨A', c', hv, _, _, hx⟩, h2, h3⟩ := h
  have hi := (List.getElem?_eq_some_iff.1 hl).1
  cases hv
  obtain ⟨t, ht⟩ := at_lt (l := ts) (k := i) (by omega)
  obtain ⟨b, o, rfl, hb, hcell⟩ := hx (by omega)
  exact ⟨h2, b, o, t, rfl, hb, hcell i _ (by rw [fl_sv, List.getElem?_map, ht]; rfl), h3 i t l ht hl⟩
theorem LL.len {w : World} {u : Value} {ls : List (List Int)} (h : LL w u ls) : ∃ A c, u = .slice A ls.length c := by
  obtain ⟨ts, ⟨A, c, hv, _⟩, h2, _⟩ := h
  exact ⟨A, c, by rw [hv, h2]⟩
/-- The rows so far: each lies above g. -/
def Rows2 (w : World) (g : Nat) (ts : List SlT) (ls : List (List Int)) : Prop := ts.length = ls.length ∧ ∀ (i : Nat) t l, ts[i]? = some t → ls[i]? = some l → OwnI w g (svV t) l
theorem Rows2.below {w w' : World} {g : Nat} {ts : List SlT} {ls : List (List Int)} (h : Rows2 w g ts ls) (hb : Below w.heap.size w w') : Rows2 w' g ts ls := ⟨h.1, fun i t l ht hl => (h.2 i t l ht hl).below hb⟩
theorem Rows2.store {w : World} {g : Nat} {ts : List SlT} {ls : List (List Int)} (h : Rows2 w g ts ls) {p : Addr} (hp : p.block < g) (u : Value) : Rows2 (w.setCell p u) g ts ls := ⟨h.1, fun i t l ht hl => ownsRow_setCell_below (h.2 i t l ht hl) hp u⟩
theorem Rows2.snoc {w : World} {g : Nat} {ts : List SlT} {ls : List (List Int)} {t : SlT} {l : List Int} (h : Rows2 w g ts ls) (ho : OwnI w g (svV t) l) : Rows2 w g (ts ++ [t]) (ls ++ [l]) := by
  refine ⟨by simp [h.1], fun i t' l' ht hl => ?_⟩
  rw [List.getElem?_append] at ht hl
  rw [← h.1] at hl
  split at ht
  · next hi => rw [if_pos hi] at hl; exact h.2 i t' l' ht hl
  · next hi =>
    rw [if_neg hi] at hl
    obtain ⟨k, hk⟩ : ∃ k, i - ts.length = k := ⟨_, rfl⟩
    rw [hk] at ht hl
    cases k with
    | zero => simp at ht hl; rw [← ht, ← hl]; exact ho
    | succ k => simp at ht
theorem Rows2.ll {w : World} {g : Nat} {ts : List SlT} {ls : List (List Int)} (h : Rows2 w g ts ls) {u : Value} (hu : LstG sv w u ts) : LL w u ls := ⟨ts, hu, h.1, fun i t l ht hl => OwnI.lst (h.2 i t l ht hl)⟩

/-! ### All -/
theorem rows_take (f : Nat → List Int) (k : Nat) : (List.range (k + 1)).map f = (List.range k).map f ++ [f k] := by rw [List.range_succ, List.map_append]; rfl
set_option maxRecDepth 100000 in
set_option maxHeartbeats 4000000 in
theorem kall_any (n : Int) (v : Value) (l : List Er) (hl : l.length ≤ 9223372036854775807) (w : World) (h : LstR w v l) :
    Calls Try.prog 15 #[.int .i64 n, v] w fun e w' => ∃ u, e = .returned (.tuple #[u, .int .i64 (chkR n l)]) ∧ LL w' u (ansA n l) ∧ Below w.heap.size w w' := by
  have CK := Lib.hid (check_any n v (.slice none 0 0) l [] hl (by simp) w h (LstI.nil w))
  rw [chkK_nil] at CK
  have H := Lib.hid h
  clear h
  by_cases hc : chkR n l = 0
  · obtain ⟨N, L, g⟩ := chkR_ok hc
    have hn := g.n_eq
    have A := Lib.hid (ansA_ok g hc)
    rw [hc] at CK ⊢
    subst hn
    have HL : Hid (LstD w v L) := by have := H.out; rw [g.l_eq] at this; exact this.down
    have hN := g.le
    have hm := g.many
    have HI := Lib.hid g.inn
    have HW := Lib.hid g.low
    clear hc H hl g
    have MK := fun W => mkG_run (enc := sv) (k := 1) sv_len (by decide) Try.underlying34 info_sl ((none, 0, 0) : SlT) rfl N (by omega) (by omega) (N : Int) rfl W
    go_enter Try.func15, Try.ntmps15
    go_wp2_with fail
    refine CK.out.mono ?_
    rintro e w1 ⟨rfl, c1⟩
    have B1 := Lib.hid c1
    clear c1 CK
    go_wp2_with fail
    refine (neighbors_any v L N hN HI.out hm w1 (HL.out.below B1.out)).mono ?_
    rintro e w2 ⟨mb, V, rfl, nb, b2⟩
    have B2 : Hid (Below w.heap.size w w2) := B1.out.trans (b2.mono B1.out.size)
    obtain ⟨w3, hw3⟩ : ∃ x, w2.alloc (.cells (fl sv (List.replicate N ((none, 0, 0) : SlT))).toArray 25 (0, 0)) = x := ⟨_, rfl⟩
    have O3 : Hid (OwnL w3 w2.heap.size (.slice (some ⟨w2.heap.size, 0, none⟩) N N) (([] : List SlT) ++ List.replicate (N - 0) (none, 0, 0))) := by
      have := ownG_made (enc := sv) (T := 25) sv_len w2 (Nat.le_refl _) (List.replicate N ((none, 0, 0) : SlT)) (by rw [List.length_replicate]; unfold maxLen; omega)
      rw [List.length_replicate, hw3] at this
      exact this
    have b23 : Below w2.heap.size w2 w3 := by rw [← hw3]; exact (Below.refl _ _).alloc (Nat.le_refl _) _
    have NB0 := Lib.hid nb
    have BG : Hid (Below w2.heap.size w2 w3) := b23
    have B3 : Hid (Below w.heap.size w w3) := B2.out.trans (b23.mono B2.out.size)
    have Z3 : Hid (w3.heap.size = w2.heap.size + 1) := by show _ = _; rw [← hw3]; simp
    have HZ : Hid (w.heap.size ≤ w2.heap.size) := B2.out.size
    clear nb b2 b23 B1 B2
    go_wp2_with fail
    clear MK hw3
    generalize hG : w2.heap.size = G at *
    have HG := Lib.hid hG
    clear hG
    go_loopw [22] (fun i wr => ∃ (k : Nat) (ts : List SlT), i = .int .i64 k ∧ k ≤ N ∧ Hid (Rows2 wr (G + 1) ts ((List.range k).map (distL N L))) ∧ Hid (OwnL wr G (.slice (some ⟨G, 0, none⟩) N N) (ts ++ List.replicate (N - k) (none, 0, 0))) ∧ Hid (Below G w2 wr) ∧ Hid (Below w.heap.size w wr) ∧ Hid (G + 1 ≤ wr.heap.size)) (fun i _ => N - (intOf i).toNat)
    case atStart => exact ⟨0, [], rfl, Nat.zero_le _, Lib.hid ⟨rfl, fun i t l ht => by simp at ht⟩, O3, BG, B3, Lib.hid (Nat.le_of_eq Z3.out.symm)⟩
    case round =>
      clear O3 BG B3
      obtain ⟨k, ts, rfl, hk, HR, HO, BG, HB, HS⟩ := hrel
      have htl : ts.length = k := by have := HR.out.1; rw [List.length_map, List.length_range] at this; exact this
      by_cases hlt : k < N
      · have gk : (k : Int) < (N : Int) := by omega
        have hpl : (ts ++ List.replicate (N - k) ((none, 0, 0) : SlT)).length = N := by rw [List.length_append, List.length_replicate]; omega
        have hat : (ts ++ List.replicate (N - k) ((none, 0, 0) : SlT))[k]? = some (none, 0, 0) := by
          rw [List.getElem?_append_right (by omega), htl, Nat.sub_self, List.getElem?_replicate, if_pos (by omega)]
        have HPL := Lib.hid hpl
        have HAT := Lib.hid hat
        have DC := Lib.hid (distances_any N k mb V L hN hlt hm HI.out HW.out wr (NB0.out.below (by rw [HG.out]; exact BG.out)))
        have HTL := Lib.hid htl
        clear hpl hat htl
        go_wp2_with fail
        refine DC.out.mono ?_
        rintro e w5 ⟨u, rfl, ow, b5⟩
        obtain ⟨A5, c5, rfl, -⟩ := own_shape ow
        obtain ⟨q0, f0⟩ := OwnL.atn HPL.out (HO.out.below b5) HAT.out
        have O6 : Hid (OwnL (w5.setCell ⟨G, k, none⟩ (.slice A5 (distL N L k).length c5)) G (.slice (some ⟨G, 0, none⟩) N N) ((ts ++ [((A5, (distL N L k).length, c5) : SlT)]) ++ List.replicate (N - (k + 1)) (none, 0, 0))) := by
          have h1 := OwnL.putn HPL.out (HO.out.below b5) k (A5, (distL N L k).length, c5)
          rw [List.set_append_right _ _ (by rw [HTL.out]; exact Nat.le_refl _), HTL.out, Nat.sub_self, show N - k = (N - (k + 1)) + 1 by omega, List.replicate_succ, List.set_cons_zero] at h1
          show OwnL _ _ _ _
          rw [List.append_assoc]
          exact h1
        have R6 : Hid (Rows2 (w5.setCell ⟨G, k, none⟩ (.slice A5 (distL N L k).length c5)) (G + 1) (ts ++ [((A5, (distL N L k).length, c5) : SlT)]) ((List.range (k + 1)).map (distL N L))) := by
          show Rows2 _ _ _ _
          rw [rows_take]
          exact ((HR.out.below b5).snoc (t := (A5, (distL N L k).length, c5)) (own_down (show World.ownsRow w5 wr.heap.size 3 1 (svV (A5, (distL N L k).length, c5)) _ _ from ow) HS.out)).store (Nat.lt_succ_self G) _
        have G6 : Hid (Below G w2 (w5.setCell ⟨G, k, none⟩ (.slice A5 (distL N L k).length c5))) := (BG.out.trans (b5.mono (Nat.le_trans (Nat.le_succ G) HS.out))).setCell (Nat.le_refl _) _
        have B6 : Hid (Below w.heap.size w (w5.setCell ⟨G, k, none⟩ (.slice A5 (distL N L k).length c5))) := (HB.out.trans (b5.mono HB.out.size)).setCell HZ.out _
        have S6 : Hid (G + 1 ≤ (w5.setCell ⟨G, k, none⟩ (.slice A5 (distL N L k).length c5)).heap.size) := by
          have : (w5.setCell ⟨G, k, none⟩ (.slice A5 (distL N L k).length c5)).heap.size = w5.heap.size := by simp [World.setCell]
          show _ ≤ _
          rw [this]
          exact Nat.le_trans HS.out b5.size
        have q1 : w5.cell? ⟨G, k, none⟩ = some (.slice none 0 0) := q0
        clear ow b5 HR HO BG HB HS HPL HAT DC q0
        go_wp2_with fail
        go_roundw
        case rel => exact ⟨k + 1, _, by go_num, by omega, R6, O6, G6, B6, S6⟩
        case measure => simp [intOf]; omega
      · have d : decide (k < N) = false := by rw [decide_eq_false_iff_not]; exact hlt
        have K : Hid (LL wr (.slice (some ⟨G, 0, none⟩) N N) (ansA (N : Int) l) ∧ Below w.heap.size w wr) := by
          refine ⟨?_, HB.out⟩
          have h1 := HO.out
          have h2 := HR.out
          rw [show k = N by omega, Nat.sub_self, List.replicate_zero, List.append_nil] at h1
          rw [show k = N by omega] at h2
          rw [A.out]
          exact h2.ll (OwnG.lst h1)
        clear hlt HO HR BG HB HS htl
        go_wp2_with fail
        go_ret2
        exact ⟨_, rfl, K.out⟩
  · have A := Lib.hid (ansA_bad hc)
    have t := bne_true (a := chkR n l) (b := 0) hc
    generalize chkR n l = q at CK t ⊢
    clear hc H hl
    go_enter Try.func15, Try.ntmps15
    go_wp2_with fail
    refine CK.out.mono ?_
    rintro e w1 ⟨rfl, c1⟩
    have B1 := Lib.hid c1
    clear c1 CK
    go_wp2_with fail
    go_ret2
    exact ⟨_, rfl, by rw [A.out]; exact LL.nil _, B1.out⟩
end Go.Proofs.Ytahbgafjljfndaa
