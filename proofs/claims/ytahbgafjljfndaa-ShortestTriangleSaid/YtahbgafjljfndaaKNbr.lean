/-
  The program's neighbors of a list of edges: a map that tells, for each node, the edges that leave it; nothing that existed before the call has changed behind it. Condition: at most 4096 edges of a checked graph.
-/
import Derived.Test.YtahbgafjljfndaaMapG
namespace Go.Proofs.Ytahbgafjljfndaa
open Go.RowKit Go.Maps

/-- Appending one element, as a step of a region that draws its order: where the row lies then. -/
theorem stepG_where {α : Type} {enc : α → List Value} {k : Nat} {T : TypeId} (hk : ∀ a, (enc a).length = k) (hone : ∀ a, ∀ u ∈ enc a, u.oneCell' = true) (k0 : 0 < k) {ST : TypeId} {z : Value} {bytes : Nat} (hu : Try.prog.underlying ST = some (.slice T)) (hinfo : (Try.prog.info? T).map (fun i => (i.zero, i.size, i.bytes)) = some (some z, k, bytes)) (hz0 : z.cells.size = k) (hb64 : bytes ≤ 64)
    (w : World) {ops : Array Oper} {o : Oper} {a : Act} {K : Act → World → Prop} {Q : Exit → Act → World → Prop} {E : Prop} (hgd : o.guard = none) (s x : Operand)
    (ho : o.op = .call { callee := .builtin .append, args := #[s, x], argTypes := #[ST, ST] }) (base : Nat) (v : Value) (l : List α) (m : α) (hs : a.eval s = v) (hown : OwnG enc T k w base v l)
    (b : Nat) (cells : Array Value) (hbk : w.heap[b]? = some (.cells cells T (0, 0))) (hc : cells.toList = enc m) (hx : a.eval x = .slice (some ⟨b, 0, none⟩) 1 1) (hb : base ≤ w.heap.size)
    (hl : l.length + 1 ≤ 1099511627776) (h : ∀ v' w', OwnG enc T k w' base v' (l ++ [m]) → w.grownBy w' v.ownBlock → (∀ g, v'.ownBlock = some g → v.ownBlock = some g ∨ g = w.heap.size) → K (a.put o.dst v') w') : if Region.wanted o (yielded ops a.tmps) = true then Oper.wp Try.prog o a w K Q else E := by
  obtain ⟨i, hi, hz, hsz, hby⟩ := info_parts hinfo
  have hw : Region.wanted o (yielded ops a.tmps) = true := by simp [Region.wanted, hgd]
  rw [if_pos hw]
  obtain ⟨v', w', hr, h2, h3, h4⟩ := run_append_where (P := Try.prog) w base ST o.type T i z k bytes hu hi hz hsz hby hz0 k0 v l.length (fl enc l) hown ⟨b, 0, none⟩ 1 1 (enc m) (by rw [hk, Nat.one_mul]) (by
    intro j u hu
    have hadd : (⟨b, 0, none⟩ : Addr).add j = ⟨b, j, none⟩ := by unfold Addr.add; split <;> simp_all
    rw [hadd, cell_of_row w b j cells _ _ hbk, ← hu, ← hc]
    simp) (hone m) (by unfold maxLen; omega) (Nat.le_trans (Nat.mul_le_mul_left _ hb64) (by omega)) hb
  unfold Oper.wp execOp
  simp only [ho, resolve, invoke, builtin, Sem.run_bind, Sem.run_pure, Result.andThen_ok, List.map_toArray, List.map_cons, List.map_nil, hs, hx, hr]
  refine h v' w' ?_ h3 h4
  unfold OwnG
  rw [List.length_append, fl_app, fl_one]
  exact h2
theorem outs_take {L : List Ed} {k : Nat} {e : Ed} (h : L[k]? = some e) : L.take (k + 1) = L.take k ++ [e] := take_at L k e h
theorem outs_len (L : List Ed) (a : Nat) : (outs L a).length ≤ L.length := by unfold outs; exact List.length_filter_le _ _
set_option maxRecDepth 100000 in
set_option maxHeartbeats 4000000 in
theorem neighbors_any (v : Value) (L : List Ed) (N : Nat) (hN : N ≤ 64) (hi : Inn L N) (hl : L.length ≤ 4096) (w : World) (h : LstD w v L) :
    Calls Try.prog 25 #[v] w fun e w' => ∃ b V, e = .returned (.map (some b)) ∧ NbrL w' b V L ∧ Below w.heap.size w w' := by
  have H := Lib.hid h
  obtain ⟨A, c, rfl, -, -, -⟩ := h
  have hmm := @run_makeMap Try.prog
  go_enter Try.func25, Try.ntmps25
  go_wp2_with fail
  clear hmm
  go_loopw [9] (fun i wr => ∃ (k : Nat) (V : Int → Value), i = .int .i64 k ∧ k ≤ L.length ∧ Hid (Nbr wr w.heap.size k (w.heap.size + 1) V (L.take k)) ∧ Hid (Below w.heap.size w wr)) (fun i _ => L.length - (intOf i).toNat)
  case atStart =>
    refine ⟨0, fun _ => .slice none 0 0, rfl, Nat.zero_le _, ⟨MapV.made w, by omega, fun a => OwnG.nil _ _ _ _ _, fun a a' _ g hg => by cases hg⟩, Lib.hid ((Below.refl _ _).alloc (Nat.le_refl _) _)⟩
  case round =>
    obtain ⟨k, V, rfl, hk, HO, HB⟩ := hrel
    by_cases hlt : k < L.length
    · obtain ⟨e, he⟩ := at_lt hlt
      obtain ⟨b, o, rfl, hb, m0, m1, m2⟩ := three_at de_len H.out he rfl
      have hin := hi e (List.mem_iff_getElem?.2 ⟨k, he⟩)
      obtain ⟨x, y, z⟩ := e
      simp only at m0 m1 m2 hin
      have r0 := (HB.out.cell (p := ⟨b, o + k * 3, none⟩) hb).trans m0
      have r1 := (HB.out.cell (p := ⟨b, o + k * 3 + 1, none⟩) hb).trans m1
      have r2 := (HB.out.cell (p := ⟨b, o + k * 3 + 2, none⟩) hb).trans m2
      have gk : (k : Int) < (L.length : Int) := by omega
      have hz := HB.out.size
      have hbm := HO.out.1.lt
      have TT := Lib.hid (outs_take he)
      have hlen := Nat.le_trans (outs_len (L.take k) x) (by rw [List.length_take]; exact Nat.min_le_left _ _)
      obtain ⟨w1, hw1⟩ : ∃ w1, wr.alloc (.cells #[.int .i64 (x : Int), .int .i64 (y : Int), .int .i64 (z : Int)] 47 (0, 0)) = w1 := ⟨_, rfl⟩
      have hz1 : w.heap.size + 1 ≤ w1.heap.size := by rw [← hw1]; simp; omega
      have O1 : Hid (Nbr w1 w.heap.size k (w.heap.size + 1) V (L.take k)) := by rw [← hw1]; exact HO.out.below ((Below.refl _ _).alloc (Nat.le_refl _) _)
      have B1 : Hid (Below w.heap.size w w1) := by rw [← hw1]; exact HB.out.alloc hz _
      have c1 : w1.heap[wr.heap.size]? = some (.cells #[.int .i64 (x : Int), .int .i64 (y : Int), .int .i64 (z : Int)] 47 (0, 0)) := by rw [← hw1]; exact heap_alloc_new _ _
      have q0 : w1.cell? ⟨wr.heap.size, 0, none⟩ = some (.int .i64 (x : Int)) := by rw [cell_of_row _ _ 0 _ _ _ c1]; rfl
      have q1 : w1.cell? ⟨wr.heap.size, 1, none⟩ = some (.int .i64 (y : Int)) := by rw [cell_of_row _ _ 1 _ _ _ c1]; rfl
      have q2 : w1.cell? ⟨wr.heap.size, 2, none⟩ = some (.int .i64 (z : Int)) := by rw [cell_of_row _ _ 2 _ _ _ c1]; rfl
      have LK : ∀ W, Below w1.heap.size w1 W → (Instr.lookup 50 (.map (some w.heap.size)) (.int .i64 (x : Int)) false).run Try.prog W = .ok (V x) W := fun W hW => (O1.out.1.below hW).look _ (by omega) (by omega)
      have l1 := LK w1 (Below.refl _ _)
      have l2 := LK w1.drew (Below.refl _ _).drew
      have l3 := fun o => LK (w1.alloc o) ((Below.refl _ _).alloc (Nat.le_refl _) o)
      have l4 := fun o => LK (w1.alloc o).drew ((Below.refl _ _).alloc (Nat.le_refl _) o).drew
      have ga : ∀ (j : Nat) (v : Value), w1.cell? ⟨wr.heap.size, j, none⟩ = some v → ∀ o, (w1.alloc o).cell? ⟨wr.heap.size, j, none⟩ = some v := fun j v hv o => ((Below.cell (p := ⟨wr.heap.size, j, none⟩) ((Below.refl w1.heap.size w1).alloc (Nat.le_refl _) o)) (by rw [← hw1]; simp)).trans hv
      have hvx : ∀ g, (V (x : Int)).ownBlock = some g → g < wr.heap.size := fun g hg => (World.ownsRow.lt (HO.out.2.2.1 x) g hg).2
      have hsz : wr.heap.size < w1.heap.size := by rw [← hw1]; simp
      have c2 : ∀ o, (w1.alloc o).drew.heap[wr.heap.size]? = some (.cells #[.int .i64 (x : Int), .int .i64 (y : Int), .int .i64 (z : Int)] 47 (0, 0)) := fun o => (Go.heap_alloc_old w1 o hsz).trans c1
      have HC2 := Lib.hid c2
      have HVX := Lib.hid hvx
      clear hvx c2
      have q3 := ga 0 _ q0
      have q4 := ga 1 _ q1
      have q5 := ga 2 _ q2
      clear he m0 m1 m2 LK c1 H HB HO hbm ga
      go_wp2_with fail
      go_region_law (first
        | (refine stepG_where de_len de_one (by decide) Try.underlying29 info_ed rfl (by decide) _ rfl _ _ rfl (w.heap.size + 1) _ (outs (L.take k) x) (x, y, z) rfl ((O1.out.below (((Below.refl _ _).alloc (Nat.le_refl _) _).drew)).2.2.1 x) w1.heap.size _ (heap_alloc_new _ _) rfl rfl (by simp; omega) (by omega) ?_
           intro v1 w2 own1 gr1 wh1
           have O2 := Lib.hid own1
           have G2 := Lib.hid gr1
           have WH := Lib.hid wh1
           clear own1 gr1 wh1
           obtain ⟨w3, hrun, mv, g3⟩ := MapV.update ((O1.out.below (((Below.refl _ _).alloc (Nat.le_refl _) _).drew)).1.kept G2.out (fun e => by have := World.ownsRow.lt (O1.out.2.2.1 x) _ e.symm; omega)) (by omega) (x : Int) (by omega) (by omega) v1
           have c3 := (G2.out.block wr.heap.size (by simp; omega) (fun e => by have := HVX.out _ e.symm; omega)).trans (HC2.out _)
           have q6 : w2.cell? ⟨wr.heap.size, 0, none⟩ = some (.int .i64 (x : Int)) := by rw [cell_of_row _ _ 0 _ _ _ c3]; rfl
           clear c3
           have MV := Lib.hid mv
           have G3 := Lib.hid g3
           clear mv g3))
      all_goals
        have NB : Hid (Nbr w3 w.heap.size (k + 1) (w.heap.size + 1) (putV V x v1) (L.take (k + 1))) := by
          show Nbr _ _ _ _ _ _
          rw [TT.out]
          exact (O1.out.below (((Below.refl _ _).alloc (Nat.le_refl _) _).drew)).step (e := (x, y, z)) (by simp; omega) O2.out G2.out (fun g hg => (WH.out g hg).imp id (fun h => by rw [h]; exact Nat.le_refl _)) MV.out G3.out
        have B3 : Hid (Below w.heap.size w w3) := by
          have s1 := G2.out.size
          simp at s1
          exact ((B1.out.alloc (by omega) _).drew.grown G2.out (by simp; omega) fun g hg => by have := World.ownsRow.lt (O1.out.2.2.1 x) _ hg; omega).grown G3.out (by omega) fun g hg => by cases hg; exact Nat.le_refl _
        clear O1 O2 G2 WH MV G3 B1 hrun
        go_wp2_with fail
        go_roundw
        case rel => exact ⟨k + 1, _, by go_num, by omega, NB, B3⟩
        case measure => simp [intOf]; omega
    · have E : Hid (NbrL wr w.heap.size V L) := by
        have := HO.out
        rw [List.take_of_length_le (by omega)] at this
        exact this.read
      have d : decide (k < L.length) = false := by rw [decide_eq_false_iff_not]; exact hlt
      clear hlt HO
      go_wp2_with fail
      go_ret
      exact ⟨_, _, rfl, E.out, HB.out⟩
end Go.Proofs.Ytahbgafjljfndaa
