/-
  The law HeapPops: true for every input, nothing that existed has changed. Condition: the integers are ints.
-/
import Derived.Test.YtnmomkldlajimaaHLaw
namespace Go.Proofs.Ytnmomkldlajimaa
open Go.RowKit

/-- What the second loop knows when k elements have been popped: the last one lies in block pb. -/
def PopsR (m : Int) (B : Nat) (l : List Pr) (w : World) (pb k : Nat) (wr : World) : Prop :=
  ∃ (last : Pr) (l' : List (Pr × Nat)), St wr B (fnM m) l' l.length ∧ Hp (lessM m) l' ∧ l'.length + k = l.length ∧ wr.heap[pb]? = some (.cells #[.int .i64 last.1, .int .i64 last.2] 28 (0, 0)) ∧ Ok2 last ∧ (0 < k → ∀ e ∈ l', lessM m e.1 last = false) ∧ Below B w wr
theorem pops_next {m : Int} {B : Nat} {l : List Pr} {w w3 : World} {pb k : Nat} {l' : List (Pr × Nat)} {a : Pr × Nat} {last : Pr} (o : IsOrd (lessM m)) (ha : l'[0]? = some a) (hl : l'.length + k = l.length) (hp : Hp (lessM m) l') (ok : Ok2 a.1) (s : St w3 B (fnM m) (popH (lessM m) l') l.length) (r : w3.heap[pb]? = some (.cells #[.int .i64 last.1, .int .i64 last.2] 28 (0, 0))) (hb : Below B w w3) (hpb : B ≤ pb) :
    PopsR m B l w pb (k + 1) ((w3.setCell ⟨pb, 0, none⟩ (.int .i64 a.1.1)).setCell ⟨pb, 1, none⟩ (.int .i64 a.1.2)) := by
  have hll := (List.getElem?_eq_some_iff.1 ha).1
  have h1 := heap_setCell_same w3 pb 0 _ _ (.int .i64 a.1.1) r
  have h2 := heap_setCell_same _ pb 1 _ _ (.int .i64 a.1.2) h1
  refine ⟨a.1, popH (lessM m) l', (s.store (T := 28) ⟨_, _, r⟩ not_ht _).store (T := 28) ⟨_, _, h1⟩ not_ht _, pop_heap o hp, by rw [pop_len]; omega, ?_, ok, fun _ e he => ?_, (hb.setCell hpb _).setCell hpb _⟩
  · rw [h2]
    simp
  · have := root_least o hp ha e ((pop_perm (lessM m) l' a ha).symm.subset (List.mem_cons_of_mem _ he))
    exact (nb_iff.1 this).1
theorem PopsR.below {m : Int} {B : Nat} {l : List Pr} {w wr w' : World} {pb k : Nat} (h : PopsR m B l w pb k wr) (hb : Below wr.heap.size wr w') (hB : B ≤ wr.heap.size) : PopsR m B l w pb k w' := by
  obtain ⟨last, l', h1, h2, h3, h4, h5, h6, h7⟩ := h
  exact ⟨last, l', h1.below hb, h2, h3, (hb.block pb (Tag.lt ⟨_, _, h4⟩)).trans h4, h5, h6, h7.trans (hb.mono hB)⟩
set_option maxRecDepth 100000 in
set_option maxHeartbeats 4000000 in
theorem pops_law (m : Int) (v : Value) (l : List Pr) (_ : l.length ≤ 9223372036854775807) (hk : ∀ a ∈ l, Ok2 a) (w : World) (h : LstP w v l) : Calls Try.prog 6 #[.int .i64 m, v] w fun e w' => e = .returned (.bool true) ∧ Below w.heap.size w w' := by
  have M := Lib.hid (made_any m w)
  have hh := h
  obtain ⟨A, c, rfl, -⟩ := hh
  have H : Hid (LstP w (.slice A l.length c) l) := h
  have HK := Lib.hid hk
  clear h hk
  rcases guard3 m l.length 2 with h0 | ⟨h0, h1⟩ | ⟨h0, h1, h2⟩ | ⟨h0, h1, h2, h3, h4, h5⟩
  · clear H HK
    go_enter Try.func6, Try.ntmps6
    go_wp2_with fail
    refine M.out.mono ?_
    rintro e w1 ⟨rfl, -, b1⟩
    go_wp2_with fail
    refine (rel (W := w) (ex_any w1) b1).mono ?_
    rintro e w2 ⟨rfl, b2⟩
    clear b1
    go_wp2_with fail
    go_ret
    exact ⟨rfl, b2⟩
  · clear H HK
    go_enter Try.func6, Try.ntmps6
    go_wp2_with fail
    refine M.out.mono ?_
    rintro e w1 ⟨rfl, -, b1⟩
    go_wp2_with fail
    refine (rel (W := w) (ex_any w1) b1).mono ?_
    rintro e w2 ⟨rfl, b2⟩
    clear b1
    go_wp2_with fail
    go_ret
    exact ⟨rfl, b2⟩
  · clear H HK
    go_enter Try.func6, Try.ntmps6
    go_wp2_with fail
    refine M.out.mono ?_
    rintro e w1 ⟨rfl, -, b1⟩
    go_wp2_with fail
    refine (rel (W := w) (ex_any w1) b1).mono ?_
    rintro e w2 ⟨rfl, b2⟩
    clear b1
    go_wp2_with fail
    go_ret
    exact ⟨rfl, b2⟩
  · have OM := Lib.hid (ord_mode h3 h4)
    have LS := Lib.hid (fun a b ha hb W => less_mode h3 h4 a b ha hb W)
    go_enter Try.func6, Try.ntmps6
    go_wp2_with fail
    refine M.out.mono ?_
    rintro e w1 ⟨rfl, s1, b1⟩
    have P1 : Hid (PushR m w.heap.size l w 0 w1) := ⟨s1, b1⟩
    clear s1 b1 M
    go_wp2_with fail
    go_loopw [36] (fun u wr => ∃ k : Nat, u = .int .i64 (k : Int) ∧ k ≤ l.length ∧ Hid (PushR m w.heap.size l w k wr)) (fun u _ => l.length - (intOf u).toNat)
    case atStart => exact ⟨0, rfl, Nat.zero_le _, P1⟩
    case round =>
      obtain ⟨k, rfl, hkl, HP⟩ := hrel
      by_cases hlt : k < l.length
      · obtain ⟨x, hx⟩ := at_lt hlt
        obtain ⟨b, o, c', hv, hb, x0, x1⟩ := LstG.pair H.out hx
        cases hv
        rw [← HP.out.2.cell (p := ⟨b, _, none⟩) hb] at x0 x1
        have hbr : b < wr.heap.size := Nat.lt_of_lt_of_le hb HP.out.2.size
        have C := Lib.hid (push_round m w.heap.size l h5 HK.out w hx (Nat.le_refl _) wr HP.out)
        have gk : (k : Int) < (l.length : Int) := by omega
        clear hx HP
        go_wp2_with fail
        refine C.out.mono ?_
        rintro e w2 ⟨rfl, p2⟩
        have P2 := Lib.hid p2
        clear p2 x0 x1 C
        go_wp2_with fail
        go_roundw
        case rel => exact ⟨k + 1, by go_num, by omega, P2⟩
        case measure => simp [intOf]; omega
      · have hk2 : k = l.length := by omega
        subst hk2
        have S := HP.out.1
        rw [List.take_length] at S
        have SS := Lib.hid S
        have B0 := Lib.hid HP.out.2
        have hc : (pushAll (lessM m) [] 0 l).length = l.length := by rw [pushAll_len]; simp
        have dd : decide (l.length < l.length) = false := by simp
        clear S HP hlt
        have HH := Lib.hid (pushAll_heap OM.out l [] 0 Hp.nil)
        have hbs := B0.out.size
        have PR : Hid (PopsR m w.heap.size l w wr.heap.size 0 (wr.alloc (.cells #[.int .i64 0, .int .i64 0] 28 (0, 0)))) := ⟨(0, 0), pushAll (lessM m) [] 0 l, SS.out.below ((Below.refl _ _).alloc (Nat.le_refl _) _), HH.out, by rw [hc]; rfl, heap_alloc_new _ _, ⟨by decide, by decide⟩, fun h => absurd h (Nat.lt_irrefl _), B0.out.alloc hbs _⟩
        clear SS B0 hc HH
        go_wp2_with fail
        obtain ⟨pb, hpb⟩ : ∃ pb, wr.heap.size = pb := ⟨_, rfl⟩
        rw [hpb] at PR hbs ⊢
        go_loopw [46] (fun u wr => ∃ k : Nat, u = .int .i64 (k : Int) ∧ k ≤ l.length ∧ Hid (PopsR m w.heap.size l w pb k wr)) (fun u _ => l.length - (intOf u).toNat)
        case atStart => exact ⟨0, rfl, Nat.zero_le _, PR⟩
        case round =>
          obtain ⟨k, rfl, hkl, HR⟩ := hrel
          obtain ⟨last, l', st, hp, hl', hlast, ok, hlow, hb⟩ := HR.out
          have ST := Lib.hid st
          have HP := Lib.hid hp
          have RL := Lib.hid hlast
          have LOW := Lib.hid hlow
          have OK := Lib.hid ok
          have HB := Lib.hid hb
          have hbz := hb.size
          have hpz : pb < wr.heap.size := Tag.lt ⟨_, _, hlast⟩
          clear HR st hp hlast hlow hb ok PR
          by_cases c2 : k < l.length
          · obtain ⟨a, ha0⟩ := at_lt (l := l') (k := 0) (by omega)
            have HA := Lib.hid ha0
            have oka : Hid (Ok2 a.1) := ST.out.ok ha0
            have gk : (k : Int) < (l.length : Int) := by omega
            clear ha0
            go_wp2_with fail
            refine (peek_yes w.heap.size l.length l' a HA.out (by omega) wr ST.out).mono ?_
            rintro e w2 ⟨rfl, b2⟩
            have b2' : Below wr.heap.size wr (w2.alloc (.cells #[.int .i64 a.1.1, .int .i64 a.1.2] 28 (0, 0))) := b2.alloc b2.size _
            have S2 := Lib.hid (ST.out.below b2')
            have B2 : Hid (Below w.heap.size w (w2.alloc (.cells #[.int .i64 a.1.1, .int .i64 a.1.2] 28 (0, 0)))) := HB.out.trans (b2'.mono hbz)
            have R2 := Lib.hid (heap_alloc_new w2 (.cells #[.int .i64 a.1.1, .int .i64 a.1.2] 28 (0, 0)))
            have L2 := Lib.hid ((b2'.block pb hpz).trans RL.out)
            clear b2 b2' ST HB RL
            go_wp2_with fail
            refine (pop_yes (fun_mode m) w.heap.size l.length l' a HA.out (by omega) _ S2.out).mono ?_
            rintro e w3 ⟨rfl, s3, f3⟩
            have r3 := f3.other R2.out not_ht
            have l3 := f3.other L2.out not_ht
            have z3 : w2.heap.size < w3.heap.size := Tag.lt ⟨_, _, r3⟩
            have zp : pb < w3.heap.size := Tag.lt ⟨_, _, l3⟩
            have bq : Below w3.heap.size w3 (w3.alloc (.cells #[.int .i64 a.1.1, .int .i64 a.1.2] 28 (0, 0))) := (Below.refl _ _).alloc (Nat.le_refl _) _
            have S3 := Lib.hid (s3.below bq)
            have B3 : Hid (Below w.heap.size w (w3.alloc (.cells #[.int .i64 a.1.1, .int .i64 a.1.2] 28 (0, 0)))) := (B2.out.trans (f3.below B2.out.size)).alloc (by omega) _
            have R3 := Lib.hid ((bq.block _ z3).trans r3)
            have L3 := Lib.hid ((bq.block _ zp).trans l3)
            have Q3 := Lib.hid (heap_alloc_new w3 (.cells #[.int .i64 a.1.1, .int .i64 a.1.2] 28 (0, 0)))
            have x0 : w3.cell? ⟨w2.heap.size, 0, none⟩ = some (.int .i64 a.1.1) := by rw [cell_of_row _ _ 0 _ _ _ r3]; rfl
            have x1 : w3.cell? ⟨w2.heap.size, 1, none⟩ = some (.int .i64 a.1.2) := by rw [cell_of_row _ _ 1 _ _ _ r3]; rfl
            have p0 : w3.cell? ⟨pb, 0, none⟩ = some (.int .i64 last.1) := by rw [cell_of_row _ _ 0 _ _ _ l3]; rfl
            have p1 : w3.cell? ⟨pb, 1, none⟩ = some (.int .i64 last.2) := by rw [cell_of_row _ _ 1 _ _ _ l3]; rfl
            have p2 := frozen_of_row _ _ 0 _ _ l3
            have p3 := frozen_of_row _ _ 1 _ _ l3
            have S3' := Lib.hid s3
            have L3' := Lib.hid l3
            have B3' : Hid (Below w.heap.size w w3) := B2.out.trans (f3.below B2.out.size)
            clear s3 f3 r3 l3 bq S2 B2 R2 L2
            go_wp2_with fail
            have q : (((popH (lessM m) l').length : Int) != (l.length : Int) - 1 - (k : Int)) = false := neq_false (by rw [pop_len]; omega)
            refine (len_any w.heap.size l.length (popH (lessM m) l') _ S3.out).mono ?_
            rintro e w' ⟨rfl, rfl⟩
            have hneq : pb ≠ w3.heap.size := by omega
            by_cases k0 : 0 < k
            · have C := LS.out a.1 last oka.out OK.out (w3.alloc (.cells #[.int .i64 a.1.1, .int .i64 a.1.2] 28 (0, 0)))
              rw [LOW.out k0 a (List.mem_iff_getElem?.2 ⟨0, HA.out⟩)] at C
              have CC := Lib.hid C
              clear C
              go_wp2_with fail
              refine CC.out.mono ?_
              rintro e w4 ⟨rfl, b4⟩
              have bz : (w3.alloc (.cells #[.int .i64 a.1.1, .int .i64 a.1.2] 28 (0, 0))).heap.size = w3.heap.size + 1 := by simp
              have l4 := (b4.block pb (by omega)).trans L3.out
              have q4 := (b4.block w3.heap.size (by omega)).trans Q3.out
              have N := Lib.hid (pops_next OM.out HA.out hl' HP.out oka.out (S3.out.below b4) l4 (B3.out.trans (b4.mono B3.out.size)) hbs)
              have y0 : w4.cell? ⟨w3.heap.size, 0, none⟩ = some (.int .i64 a.1.1) := by rw [cell_of_row _ _ 0 _ _ _ q4]; rfl
              have y1 : w4.cell? ⟨w3.heap.size, 1, none⟩ = some (.int .i64 a.1.2) := by rw [cell_of_row _ _ 1 _ _ _ q4]; rfl
              have t0 : w4.cell? ⟨pb, 0, none⟩ = some (.int .i64 last.1) := by rw [cell_of_row _ _ 0 _ _ _ l4]; rfl
              have t1 : w4.cell? ⟨pb, 1, none⟩ = some (.int .i64 last.2) := by rw [cell_of_row _ _ 1 _ _ _ l4]; rfl
              have t2 := frozen_of_row _ _ 0 _ _ l4
              have t3 := frozen_of_row _ _ 1 _ _ l4
              clear b4 l4 q4 S3' L3' B3' S3 B3 R3 L3 Q3 HA HP CC p0 p1 p2 p3 x0 x1 q LOW OK oka
              go_wp2_with fail
              go_roundw
              case rel => exact ⟨k + 1, by go_num, by omega, N⟩
              case measure => simp [intOf]; omega
            · have d0 : decide (0 < k) = false := decide_eq_false k0
              have N0 := pops_next OM.out HA.out hl' HP.out oka.out S3'.out L3'.out B3'.out hbs
              have N := Lib.hid (N0.below ((Below.refl _ _).alloc (Nat.le_refl _) (.cells #[.int .i64 a.1.1, .int .i64 a.1.2] 28 (0, 0))) (by have := N0.choose_spec.choose_spec.2.2.2.2.2.2.size; omega))
              clear N0 S3' L3' B3' S3 B3 R3 L3 Q3 HA HP LOW OK oka k0
              go_wp2_with fail
              go_roundw
              case rel => exact ⟨k + 1, by go_num, by omega, N⟩
              case measure => simp [intOf]; omega
          · have hk2 : k = l.length := by omega
            subst hk2
            have hnil : l' = [] := List.length_eq_zero_iff.1 (by omega)
            subst hnil
            have dd2 : decide (l.length < l.length) = false := by simp
            clear RL LOW OK HP c2
            go_wp2_with fail
            refine (rel (W := w) (pop_no w.heap.size l.length wr ST.out) HB.out).mono ?_
            rintro e w2 ⟨rfl, b2⟩
            have B2 := Lib.hid (b2.alloc b2.size (.cells #[.int .i64 0, .int .i64 0] 28 (0, 0)))
            clear b2 ST HB
            go_wp2_with fail
            refine (rel (W := w) (ex_any _) B2.out).mono ?_
            rintro e w7 ⟨rfl, b7⟩
            clear B2
            go_wp2_with fail
            go_ret
            exact ⟨rfl, b7⟩
end Go.Proofs.Ytnmomkldlajimaa
