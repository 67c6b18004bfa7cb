/-
  Drain of a heap of pairs, and Sort. Condition: keys are ints; at most 10^6 elements.
-/
import Derived.Test.YtnmomkldlajimaaHPush
namespace Go.Proofs.Ytnmomkldlajimaa
open Go.RowKit

theorem Fr.grown_new {P : TypeId → Prop} {α : Type} {enc : α → List Value} {k B : Nat} {T : TypeId} {a w w' : World} {base : Nat} {v : Value} {l : List α} (h : Fr P B a w) (o : OwnG enc T k w base v l) (hb : a.heap.size ≤ base) (hg : w.grownBy w' v.ownBlock) : Fr P B a w' :=
  ⟨hg.os.trans h.os, hg.tape.trans h.tape, hg.output.trans h.output, Nat.le_trans h.size hg.size, fun j hj hc => by
    refine (hg.block j (Nat.lt_of_lt_of_le hj h.size) fun e => ?_).trans (h.block j hj hc)
    have := (World.ownsRow.lt o j e.symm).1
    omega⟩
theorem St.nil_of {w : World} {B : Nat} {fn : Value} {l : List (Pr × Nat)} {n : Nat} (h : St w B fn l n) (hl : l = []) : St w B fn [] n := hl ▸ h
/-- How long a slice is. -/
def lenV : Value → Nat | .slice _ n _ => n | _ => 0
/-- Pop, whatever the heap holds. -/
def Popped (less : Pr → Pr → Bool) (B : Nat) (fn : Value) (n : Nat) (l : List (Pr × Nat)) (w : World) (e : Ending) (w' : World) : Prop :=
  (∃ a, l[0]? = some a ∧ e = .returned (.tuple #[.agg #[.int .i64 a.1.1, .int .i64 a.1.2], .bool true]) ∧ St w' B fn (popH less l) n ∧ Fr HT B w w') ∨
  (l = [] ∧ e = .returned (.tuple #[.agg #[.int .i64 0, .int .i64 0], .bool false]) ∧ St w' B fn [] n ∧ Fr HT B w w')
theorem pop_all {fn : Value} {less : Pr → Pr → Bool} (hf : Fun fn less) (B n : Nat) (l : List (Pr × Nat)) (hl : l.length ≤ 1048576) (w : World) (h : St w B fn l n) :
    Calls Try.prog 14 #[.pointer (some ⟨B, 0, none⟩)] w (Popped less B fn n l w) := by
  cases l with
  | nil => exact (pop_no B n w h).mono fun e w' ⟨h1, h2⟩ => .inr ⟨rfl, h1, h.below h2, Below.fr h2⟩
  | cons a r => exact (pop_yes hf B n (a :: r) a rfl hl w h).mono fun e w' ⟨h1, h2, h3⟩ => .inl ⟨a, rfl, h1, h2, h3⟩
/-- The relation of Drain's loop: v holds what has left; x is block pb. -/
def DrnR (less : Pr → Pr → Bool) (B : Nat) (fn : Value) (n : Nat) (l : List (Pr × Nat)) (w : World) (v p b : Value) (wr : World) : Prop :=
  ∃ (acc : List Pr) (l' : List (Pr × Nat)) (pb : Nat) (a : Pr), p = .pointer (some ⟨pb, 0, none⟩) ∧ OwnP wr w.heap.size v acc ∧ St wr B fn l' n ∧ Fr HT B w wr ∧ wr.heap[pb]? = some (.cells #[.int .i64 a.1, .int .i64 a.2] 28 (0, 0)) ∧ acc.length + l'.length ≤ l.length ∧ w.heap.size ≤ pb ∧ (∀ g, v.ownBlock = some g → g ≠ pb) ∧
    ((b = .bool true ∧ drainH less l = acc ++ a :: drainH less l' ∧ acc.length + 1 + l'.length ≤ l.length) ∨ (b = .bool false ∧ drainH less l = acc ∧ l' = []))
theorem OwnG.store {α : Type} {enc : α → List Value} {k : Nat} {T : TypeId} {w : World} {base : Nat} {v : Value} {l : List α} (h : OwnG enc T k w base v l) (p : Addr) (u : Value) (hne : ∀ g, v.ownBlock = some g → g ≠ p.block) : OwnG enc T k (w.setCell p u) base v l := by
  refine ⟨h.1, ?_⟩
  rcases h.2 with h0 | ⟨g, cap, cur, hv, hbg, hg, hr⟩
  · exact Or.inl h0
  · exact Or.inr ⟨g, cap, cur, hv, hbg, (RowKit.Below.heap_setCell _ _ _ _ (hne g (by rw [hv]; rfl))).trans hg, hr⟩
theorem drn_next {less : Pr → Pr → Bool} {B : Nat} {fn : Value} {n : Nat} {l l' : List (Pr × Nat)} {w w2 w3 : World} {v b : Value} {acc : List Pr} (x y : Pr) (hwB : B ≤ w.heap.size) (o : OwnP w2 w.heap.size v acc) (f2 : Fr HT B w w2) (f3 : Fr HT B (w2.alloc (.cells #[.int .i64 x.1, .int .i64 x.2] 28 (0, 0))) w3) (s3 : St w3 B fn l' n) (hlen : acc.length + l'.length ≤ l.length)
    (hc : (b = .bool true ∧ drainH less l = acc ++ y :: drainH less l' ∧ acc.length + 1 + l'.length ≤ l.length) ∨ (b = .bool false ∧ drainH less l = acc ∧ l' = [])) :
    DrnR less B fn n l w v (.pointer (some ⟨w2.heap.size, 0, none⟩)) b ((w3.setCell ⟨w2.heap.size, 0, none⟩ (.int .i64 y.1)).setCell ⟨w2.heap.size, 1, none⟩ (.int .i64 y.2)) := by
  have r3 := f3.other (heap_alloc_new w2 _) not_ht
  have hlow : ∀ g, v.ownBlock = some g → g ≠ w2.heap.size := fun g hg => by have := (World.ownsRow.lt o g hg).2; omega
  have o3 : OwnP w3 w.heap.size v acc := (o.below ((Below.refl _ _).alloc (Nat.le_refl _) _)).fr f3 not_ht
  have fw : Fr HT B w w3 := (f2.alloc _).trans f3
  have h1 := heap_setCell_same w3 w2.heap.size 0 _ _ (.int .i64 y.1) r3
  have h2 := heap_setCell_same _ w2.heap.size 1 _ _ (.int .i64 y.2) h1
  refine ⟨acc, l', w2.heap.size, y, rfl, (o3.store _ _ hlow).store _ _ hlow, (s3.store (T := 28) ⟨_, _, r3⟩ not_ht _).store (T := 28) ⟨_, _, h1⟩ not_ht _,
    (fw.setCell (p := ⟨w2.heap.size, 0, none⟩) (Nat.le_trans hwB f2.size) (.inl rfl) (fun h => absurd h (Nat.not_lt.2 f2.size)) _).setCell (p := ⟨w2.heap.size, 1, none⟩) (Nat.le_trans hwB f2.size) (.inl rfl) (fun h => absurd h (Nat.not_lt.2 f2.size)) _, ?_, hlen, f2.size, hlow, hc⟩
  rw [h2]
  simp
set_option maxRecDepth 100000 in
set_option maxHeartbeats 4000000 in
theorem drain_any {fn : Value} {less : Pr → Pr → Bool} (hf : Fun fn less) (B n : Nat) (l : List (Pr × Nat)) (hl : l.length ≤ 1000000) (w : World) (h : St w B fn l n) :
    Calls Try.prog 18 #[.pointer (some ⟨B, 0, none⟩)] w fun e w' => ∃ v, e = .returned v ∧ OwnP w' w.heap.size v (drainH less l) ∧ St w' B fn [] n ∧ Fr HT B w w' := by
  have HF := Lib.hid hf
  have hB := h.lt
  have C := Lib.hid (pop_all hf B n l (by omega) w h)
  clear h hf
  go_enter Try.func18, Try.ntmps18
  go_wp2_with fail
  refine C.out.mono ?_
  rintro e w1 (⟨a, ha, rfl, s1, f1⟩ | ⟨hnil, rfl, s1, f1⟩)
  · have S1 := Lib.hid s1
    have F1 := Lib.hid f1
    have HA := Lib.hid ha
    clear s1 f1 ha
    go_wp2_with fail
    go_loopw [3, 4, 5] (fun v p b wr => Hid (DrnR less B fn n l w v p b wr)) (fun v _ _ _ => l.length + 1 - lenV v)
    case atStart =>
      have hpl := pop_len less l
      have hlt := (List.getElem?_eq_some_iff.1 HA.out).1
      exact ⟨[], popH less l, w1.heap.size, a.1, rfl, OwnG.nil _ _ _ _ _, S1.out.below ((Below.refl _ _).alloc (Nat.le_refl _) _), F1.out.alloc _, heap_alloc_new _ _, by simp; omega, F1.out.size, fun g hg => by simp [Value.ownBlock] at hg, .inl ⟨rfl, drain_some less HA.out, by simp; omega⟩⟩
    case round =>
      obtain ⟨acc, l', pb, x, rfl, own, st, fr, hp, hlen, hpb, hne, (⟨rfl, e, hlt⟩ | ⟨rfl, e, hnil⟩)⟩ := hrel.out
      · obtain ⟨A, c, rfl, hc⟩ := ownK_shape own
        have p0 : wr.cell? ⟨pb, 0, none⟩ = some (.int .i64 x.1) := by rw [cell_of_row _ _ 0 _ _ _ hp]; rfl
        have p1 : wr.cell? ⟨pb, 1, none⟩ = some (.int .i64 x.2) := by rw [cell_of_row _ _ 1 _ _ _ hp]; rfl
        have OWN := Lib.hid own
        have ST := Lib.hid st
        have FR := Lib.hid fr
        have HP := Lib.hid hp
        have E := Lib.hid e
        have NE := Lib.hid hne
        have hpl : pb < wr.heap.size := Tag.lt ⟨_, _, hp⟩
        have hws : w.heap.size ≤ wr.heap.size := fr.size
        clear hrel own st fr hp e hne hc C
        go_wp2_with (at_builtin; refine appG_one pc_len pc_one (by decide) Try.underlying26 info_pr rfl (by decide) _ rfl (.tmp 17) (.tmp 19) rfl w.heap.size _ acc x rfl (World.ownsRow.alloc OWN.out _) wr.heap.size _ (heap_alloc_new _ _) rfl rfl (by simp; omega) (by omega) ?_)
        intro v1 w2 own1 b2 g2 _
        have g2' : World.grownBy _ w2 (Value.slice A acc.length c).ownBlock := g2
        clear g2
        have ow := World.ownsRow.alloc OWN.out (.cells #[.int .i64 x.1, .int .i64 x.2] 28 (0, 0))
        have hp2 := (g2'.block pb (by simp; omega) (fun e => NE.out pb e.symm rfl)).trans ((Go.heap_alloc_old wr _ hpl).trans HP.out)
        have S2 := Lib.hid ((ST.out.below ((Below.refl _ _).alloc (Nat.le_refl _) (.cells #[.int .i64 x.1, .int .i64 x.2] 28 (0, 0)))).grown ow not_ht g2')
        have F2 := Lib.hid ((FR.out.alloc (.cells #[.int .i64 x.1, .int .i64 x.2] 28 (0, 0))).grown_new ow (Nat.le_refl _) g2')
        have p0 : w2.cell? ⟨pb, 0, none⟩ = some (.int .i64 x.1) := by rw [cell_of_row _ _ 0 _ _ _ hp2]; rfl
        have p1 : w2.cell? ⟨pb, 1, none⟩ = some (.int .i64 x.2) := by rw [cell_of_row _ _ 1 _ _ _ hp2]; rfl
        obtain ⟨A1, c1, rfl, _⟩ := ownK_shape own1
        have O2 := Lib.hid own1
        have hz2 : pb < w2.heap.size := Tag.lt ⟨_, _, hp2⟩
        clear own1 b2 g2' ow hp2 OWN ST FR HP NE
        go_wp2_with fail
        refine (pop_all HF.out B n l' (by omega) _ (S2.out.below ((Below.refl _ _).alloc (Nat.le_refl _) _))).mono ?_
        have HB := Lib.hid hB
        rintro e w3 (⟨a2, ha2, rfl, s3, f3⟩ | ⟨hnil2, rfl, s3, f3⟩)
        · have hpl2 := pop_len less l'
          have hlt2 := (List.getElem?_eq_some_iff.1 ha2).1
          have N : Hid (DrnR less B fn n l w (.slice A1 (acc.length + 1) c1) (.pointer (some ⟨w2.heap.size, 0, none⟩)) (.bool true) ((w3.setCell ⟨w2.heap.size, 0, none⟩ (.int .i64 a2.1.1)).setCell ⟨w2.heap.size, 1, none⟩ (.int .i64 a2.1.2))) :=
            by have N0 := drn_next (less := less) (l := l) x a2.1 (Nat.le_of_lt HB.out) O2.out F2.out f3 s3 (by simp; omega) (.inl ⟨rfl, by rw [E.out, drain_some less ha2, List.append_assoc]; rfl, by simp; omega⟩); simp only [List.length_append, List.length_cons, List.length_nil, Nat.zero_add] at N0; exact N0
          have r3 := f3.other (heap_alloc_new w2 _) not_ht
          have j0 : w3.cell? ⟨w2.heap.size, 0, none⟩ = some (.int .i64 x.1) := by rw [cell_of_row _ _ 0 _ _ _ r3]; rfl
          have j1 : w3.cell? ⟨w2.heap.size, 1, none⟩ = some (.int .i64 x.2) := by rw [cell_of_row _ _ 1 _ _ _ r3]; rfl
          have j2 := frozen_of_row _ _ 0 _ _ r3
          have j3 := frozen_of_row _ _ 1 _ _ r3
          clear r3 s3 f3 ha2 O2 F2 S2 p0 p1 E
          go_wp2_with fail
          go_roundw
          case rel => exact N
          case measure => simp [lenV]; omega
        · have N : Hid (DrnR less B fn n l w (.slice A1 (acc.length + 1) c1) (.pointer (some ⟨w2.heap.size, 0, none⟩)) (.bool false) ((w3.setCell ⟨w2.heap.size, 0, none⟩ (.int .i64 0)).setCell ⟨w2.heap.size, 1, none⟩ (.int .i64 0))) :=
            by have N0 := drn_next (less := less) (l := l) x (0, 0) (Nat.le_of_lt HB.out) O2.out F2.out f3 s3 (by simp; omega) (.inr ⟨rfl, by rw [E.out, hnil2, drain_nil], rfl⟩); simp only [List.length_append, List.length_cons, List.length_nil, Nat.zero_add] at N0; exact N0
          have r3 := f3.other (heap_alloc_new w2 _) not_ht
          have j0 : w3.cell? ⟨w2.heap.size, 0, none⟩ = some (.int .i64 x.1) := by rw [cell_of_row _ _ 0 _ _ _ r3]; rfl
          have j1 : w3.cell? ⟨w2.heap.size, 1, none⟩ = some (.int .i64 x.2) := by rw [cell_of_row _ _ 1 _ _ _ r3]; rfl
          have j2 := frozen_of_row _ _ 0 _ _ r3
          have j3 := frozen_of_row _ _ 1 _ _ r3
          clear r3 s3 f3 O2 F2 S2 p0 p1 E hnil2
          go_wp2_with fail
          go_roundw
          case rel => exact N
          case measure => simp [lenV]; omega
      · have K : Hid (OwnP wr w.heap.size u3 (drainH less l) ∧ St wr B fn [] n ∧ Fr HT B w wr) := ⟨e ▸ own, st.nil_of hnil, fr⟩
        clear hrel own st fr hp hne e hnil
        go_wp2_with fail
        go_ret
        exact ⟨_, rfl, K.out⟩
  · have K : Hid (OwnP (w1.alloc (.cells #[.int .i64 0, .int .i64 0] 28 (0, 0))) w.heap.size (.slice none 0 0) (drainH less l) ∧ St (w1.alloc (.cells #[.int .i64 0, .int .i64 0] 28 (0, 0))) B fn [] n ∧ Fr HT B w (w1.alloc (.cells #[.int .i64 0, .int .i64 0] 28 (0, 0)))) :=
      ⟨by rw [hnil, drain_nil]; exact OwnG.nil _ _ _ _ _, s1.below ((Below.refl _ _).alloc (Nat.le_refl _) _), f1.alloc _⟩
    clear s1 f1 C
    go_wp2_with fail
    go_loopw [3, 4, 5] (fun v p b wr => v = .slice none 0 0 ∧ b = .bool false ∧ p = .pointer (some ⟨w1.heap.size, 0, none⟩) ∧ wr = w1.alloc (.cells #[.int .i64 0, .int .i64 0] 28 (0, 0))) (fun _ _ _ _ => 0)
    case atStart => exact ⟨rfl, rfl, rfl, rfl⟩
    case round =>
      obtain ⟨rfl, rfl, rfl, rfl⟩ := hrel
      go_wp2_with fail
      go_ret
      exact ⟨_, rfl, K.out⟩
theorem drain_nil_any (w : World) : Calls Try.prog 18 #[.pointer none] w fun e w' => e = .returned (.slice none 0 0) ∧ Below w.heap.size w w' := by
  go_enter Try.func18, Try.ntmps18
  go_wp2_with fail
  refine (pop_nil _).mono ?_
  rintro e w1 ⟨rfl, b1⟩
  go_wp2_with fail
  go_loopw [3, 4, 5] (fun v p b wr => v = .slice none 0 0 ∧ b = .bool false ∧ p = .pointer (some ⟨w1.heap.size, 0, none⟩) ∧ wr = w1.alloc (.cells #[.int .i64 0, .int .i64 0] 28 (0, 0))) (fun _ _ _ _ => 0)
  case atStart => exact ⟨rfl, rfl, rfl, rfl⟩
  case round =>
    obtain ⟨rfl, rfl, rfl, rfl⟩ := hrel
    go_wp2_with fail
    go_ret
    exact ⟨rfl, b1.alloc b1.size _⟩
end Go.Proofs.Ytnmomkldlajimaa
