/-
  A map from ints to lists of edges that a call makes: what a look-up answers, what a store leaves; the rows behind it lie apart. Condition: keys are ints; fewer than 2^40 entries.
-/
import Derived.Test.YtahbgafjljfndaaRCost
import Derived.Maps.OwnSet
import Derived.WalkArith
namespace Go.Proofs.Ytahbgafjljfndaa
open Go.RowKit Go.Maps

/-- A value as it stands. -/
def asIs (v : Value) : Option (DataW Value × List MemPlace) := some (.held v, [])
theorem int_key : Keyed Try.prog 3 := int_keyed Try.underlying3
theorem key_int (a : Int) (h1 : -9223372036854775808 ≤ a) (h2 : a ≤ 9223372036854775807) : keyOf Try.prog 3 (.int .i64 a) = some (.int .i64 a) := keyOf_int_mk Try.underlying3 (WalkArith.wf_i64 ⟨h1, h2⟩)
theorem zero_row (w : World) : (zeroValue 29).run Try.prog w = .ok (.slice none 0 0) w := by kernel_rfl
/-- Block b is a map of at most n entries: V tells what stands at each key (the nil slice where nothing does). -/
def MapV (w : World) (b n : Nat) (V : Int → Value) : Prop := ∃ D : DataW Value, w.ownsMap Try.prog 3 asIs b n D ∧ IsMap D ∧ ∀ a, D.atKey (.int .i64 a) (.held (.slice none 0 0)) = .held (V a)
theorem MapV.made (w : World) : MapV (w.alloc (.map #[] 0)) w.heap.size 0 fun _ => .slice none 0 0 := ⟨.map [], World.ownsMap_made _ _ _ _, isMap_empty, fun _ => atKey_of_not_has (has_eq [] _) _⟩
theorem MapV.lt {w : World} {b n : Nat} {V : Int → Value} (h : MapV w b n V) : b < w.heap.size := by
  obtain ⟨D, h1, _⟩ := h
  exact h1.lt
theorem MapV.kept {w w' : World} {b n : Nat} {V : Int → Value} {row : Option Nat} (h : MapV w b n V) (hg : w.grownBy w' row) (hne : some b ≠ row) : MapV w' b n V := by
  obtain ⟨D, h1, h2⟩ := h
  exact ⟨D, h1.kept hg hne, h2⟩
theorem below_none {w w' : World} (hb : Below w.heap.size w w') : w.grownBy w' none := ⟨hb.os, hb.tape, hb.output, hb.size, fun k hk _ => hb.block k hk⟩
theorem MapV.below {w w' : World} {b n : Nat} {V : Int → Value} (h : MapV w b n V) (hb : Below w.heap.size w w') : MapV w' b n V := h.kept (below_none hb) (by simp)
theorem MapV.look {w : World} {b n : Nat} {V : Int → Value} (h : MapV w b n V) (a : Int) (h1 : -9223372036854775808 ≤ a) (h2 : a ≤ 9223372036854775807) : (Instr.lookup 50 (.map (some b)) (.int .i64 a) false).run Try.prog w = .ok (V a) w := by
  obtain ⟨D, g1, _, g3⟩ := h
  obtain ⟨v, ps, hrun, hv⟩ := g1.lookup int_key Try.underlying50 (zero_row w) (show asIs (.slice none 0 0) = some (.held (.slice none 0 0), []) from rfl) (key_int a h1 h2)
  rw [g3] at hv
  have : v = V a := by
    unfold asIs at hv
    have := congrArg (fun z => z.map Prod.fst) hv
    simp at this
    exact this
  rw [hrun, this]
/-- What stands behind a store. -/
def putV (V : Int → Value) (a : Int) (v : Value) : Int → Value := fun x => if x = a then v else V x
theorem MapV.put {w w' : World} {b n : Nat} {V : Int → Value} (D : DataW Value) (h2 : IsMap D) (h3 : ∀ a, D.atKey (.int .i64 a) (.held (.slice none 0 0)) = .held (V a)) (a : Int) (v : Value) (h : w'.ownsMap Try.prog 3 asIs b n (D.put (.int .i64 a) (.held v))) : MapV w' b n (putV V a v) ∧ w = w := by
  refine ⟨⟨_, h, h2.put _ _, fun x => ?_⟩, rfl⟩
  unfold putV
  by_cases hx : x = a
  · subst hx
    rw [if_pos rfl, atKey_put_same h2 (by simp [WideAt.IsKeyLit])]
  · rw [if_neg hx, atKey_put_other (by simpa using hx), h3]
/-- A store. -/
theorem MapV.update {w : World} {b n : Nat} {V : Int → Value} (hown : MapV w b n V) (hn : n < 1099511627776) (k : Int) (k1 : -9223372036854775808 ≤ k) (k2 : k ≤ 9223372036854775807) (val : Value) :
    ∃ w', (Instr.mapUpdate 50 (.map (some b)) (.int .i64 k) val).run Try.prog w = .ok () w' ∧ MapV w' b (n + 1) (putV V k val) ∧ w.grownBy w' (some b) := by
  obtain ⟨D, g1, g2, g3⟩ := hown
  obtain ⟨w', hrun, r1, r2⟩ := g1.update int_key Try.underlying50 (by unfold maxLen; omega) (key_int k k1 k2) (show asIs val = some (.held val, []) from rfl)
  exact ⟨w', hrun, (MapV.put (w := w) D g2 g3 k val r1).1, r2⟩

/-! ### The rows behind the map -/
/-- The map at block b tells, for each node, the edges that leave it: rows of the call's own that lie apart. -/
def Nbr (w : World) (b n base : Nat) (V : Int → Value) (L : List Ed) : Prop := MapV w b n V ∧ b < base ∧ (∀ a : Nat, OwnEd w base (V a) (outs L a)) ∧ ∀ a a' : Nat, a ≠ a' → ∀ g, (V a).ownBlock = some g → (V a').ownBlock ≠ some g
theorem outs_snoc_same (L : List Ed) (e : Ed) : outs (L ++ [e]) e.1 = outs L e.1 ++ [e] := by
  unfold outs
  rw [List.filter_append]
  congr 1
  simp
theorem outs_snoc_other (L : List Ed) (e : Ed) (a : Nat) (h : a ≠ e.1) : outs (L ++ [e]) a = outs L a := by
  unfold outs
  rw [List.filter_append]
  have : [e].filter (fun e => e.1 == a) = [] := by simp [Ne.symm h]
  rw [this, List.append_nil]
theorem Nbr.below {w w' : World} {b n base : Nat} {V : Int → Value} {L : List Ed} (h : Nbr w b n base V L) (hb : Below w.heap.size w w') : Nbr w' b n base V L :=
  ⟨h.1.below hb, h.2.1, fun a => (h.2.2.1 a).below hb, h.2.2.2⟩
/-- Behind an append to one row and the store of it. -/
theorem Nbr.step {w w1 w2 : World} {b n base : Nat} {V : Int → Value} {L : List Ed} {e : Ed} {v : Value} (h : Nbr w b n base V L) (_ : base ≤ w.heap.size) (h1 : OwnEd w1 base v (outs L e.1 ++ [e])) (h2 : w.grownBy w1 (V e.1).ownBlock) (h3 : ∀ g, v.ownBlock = some g → (V e.1).ownBlock = some g ∨ w.heap.size ≤ g)
    (h4 : MapV w2 b (n + 1) (putV V e.1 v)) (h5 : w1.grownBy w2 (some b)) : Nbr w2 b (n + 1) base (putV V e.1 v) (L ++ [e]) := by
  obtain ⟨g1, g2, g3, g4⟩ := h
  have keep : ∀ {W W' : World} {u : Value} {l : List Ed} {row : Option Nat}, OwnEd W base u l → W.grownBy W' row → (∀ g, u.ownBlock = some g → some g ≠ row) → OwnEd W' base u l := by
    intro W W' u l row ho hg hne
    refine ⟨ho.1, ?_⟩
    rcases ho.2 with h0 | ⟨g, cap, cur, hv, hbg, hgk, hr⟩
    · exact .inl h0
    · have hlt : g < W.heap.size := by
        rcases Nat.lt_or_ge g W.heap.size with h | h
        · exact h
        · rw [Array.getElem?_eq_none h] at hgk; cases hgk
      exact .inr ⟨g, cap, cur, hv, hbg, (hg.block g hlt (hne g (by rw [hv]; rfl))).trans hgk, hr⟩
  have off : ∀ {W : World} {u : Value} {l : List Ed}, OwnEd W base u l → ∀ g, u.ownBlock = some g → base ≤ g ∧ g < W.heap.size := fun ho g hg => World.ownsRow.lt ho g hg
  refine ⟨h4, g2, fun a => ?_, fun a a' hne g hg hg' => ?_⟩
  · unfold putV
    by_cases ha : a = e.1
    · subst ha
      rw [if_pos rfl, outs_snoc_same]
      exact keep h1 h5 fun g hg hb' => by have := (off h1 g hg).1; have := Option.some.inj hb'; omega
    · rw [if_neg (by omega), outs_snoc_other _ _ _ ha]
      exact keep (keep (g3 a) h2 fun g hg hb' => g4 _ _ ha g hg hb'.symm) h5 fun g hg hb' => by
        have := (off (g3 a) g hg).1; have := Option.some.inj hb'; omega
  · unfold putV at hg hg'
    by_cases ha : a = e.1
    · subst ha
      rw [if_pos rfl] at hg
      rw [if_neg (by omega)] at hg'
      rcases h3 g hg with x | x
      · exact g4 _ _ (Ne.symm hne) g hg' x
      · have := (off (g3 a') g hg').2; omega
    · rw [if_neg (by omega)] at hg
      by_cases ha' : a' = e.1
      · subst ha'
        rw [if_pos rfl] at hg'
        rcases h3 g hg' with x | x
        · exact g4 _ _ hne g hg x
        · have := (off (g3 a) g hg).2; omega
      · rw [if_neg (by omega)] at hg'
        exact g4 _ _ hne g hg hg'
/-- What is left for a reader: the map, and rows that read as the edges of each node. -/
def NbrL (w : World) (b : Nat) (V : Int → Value) (L : List Ed) : Prop := (∃ n, MapV w b n V) ∧ ∀ a : Nat, LstD w (V a) (outs L a)
theorem Nbr.read {w : World} {b n base : Nat} {V : Int → Value} {L : List Ed} (h : Nbr w b n base V L) : NbrL w b V L := ⟨⟨n, h.1⟩, fun a => OwnG.lst (h.2.2.1 a)⟩
theorem NbrL.below {w w' : World} {b : Nat} {V : Int → Value} {L : List Ed} (h : NbrL w b V L) (hb : Below w.heap.size w w') : NbrL w' b V L := by
  obtain ⟨⟨n, h1⟩, h2⟩ := h
  exact ⟨⟨n, h1.below hb⟩, fun a => (h2 a).below hb⟩
theorem NbrL.look {w : World} {b : Nat} {V : Int → Value} {L : List Ed} (h : NbrL w b V L) (a : Nat) (ha : a ≤ 4096) : (Instr.lookup 50 (.map (some b)) (.int .i64 (a : Int)) false).run Try.prog w = .ok (V a) w := by
  obtain ⟨⟨n, h1⟩, _⟩ := h
  exact h1.look _ (by omega) (by omega)
end Go.Proofs.Ytahbgafjljfndaa
