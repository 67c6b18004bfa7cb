/-
  Drain of a heap of strings, and Sort. Condition: at most 10^6 elements.
-/
import Derived.Test.YtnmomkldlajimaaSPush
import Derived.Test.YtnmomkldlajimaaHDrn
namespace Go.Proofs.Ytnmomkldlajimaa.S
open Go.RowKit

theorem St.nil_of {w : World} {B : Nat} {fn : Value} {l : List (Pr × Nat)} {n : Nat} (h : St w B fn l n) (hl : l = []) : St w B fn [] n := hl ▸ h
/-- Pop, whatever the heap holds. -/
def Popped (less : Pr → Pr → Bool) (B : Nat) (fn : Value) (n : Nat) (l : List (Pr × Nat)) (w : World) (e : Ending) (w' : World) : Prop :=
  (∃ a, l[0]? = some a ∧ e = .returned (.tuple #[.string a.1, .bool true]) ∧ St w' B fn (popH less l) n ∧ Fr HT B w w') ∨
  (l = [] ∧ e = .returned (.tuple #[.string ByteArray.empty, .bool false]) ∧ St w' B fn [] n ∧ Fr HT B w w')
theorem pop_all {fn : Value} {less : Pr → Pr → Bool} (hf : Fun fn less) (B n : Nat) (l : List (Pr × Nat)) (hl : l.length ≤ 1048576) (w : World) (h : St w B fn l n) :
    Calls Try.prog 47 #[.pointer (some ⟨B, 0, none⟩)] w (Popped less B fn n l w) := by
  cases l with
  | nil => exact (pop_no B n w h).mono fun e w' ⟨h1, h2⟩ => .inr ⟨rfl, h1, h.below h2, Below.fr h2⟩
  | cons a r => exact (pop_yes hf B n (a :: r) a rfl hl w h).mono fun e w' ⟨h1, h2, h3⟩ => .inl ⟨a, rfl, h1, h2, h3⟩
/-- The relation of Drain's loop: v holds what has left; a is what has just left. -/
def DrnR (less : Pr → Pr → Bool) (B : Nat) (fn : Value) (n : Nat) (l : List (Pr × Nat)) (w : World) (v p b : Value) (wr : World) : Prop :=
  ∃ (acc : List Pr) (l' : List (Pr × Nat)) (a : Pr), p = .string a ∧ OwnP wr w.heap.size v acc ∧ St wr B fn l' n ∧ Fr HT B w wr ∧ acc.length + l'.length ≤ l.length ∧
    ((b = .bool true ∧ drainH less l = acc ++ a :: drainH less l' ∧ acc.length + 1 + l'.length ≤ l.length) ∨ (b = .bool false ∧ drainH less l = acc ∧ l' = []))
set_option maxRecDepth 100000 in
set_option maxHeartbeats 4000000 in
theorem drain_any {fn : Value} {less : Pr → Pr → Bool} (hf : Fun fn less) (B n : Nat) (l : List (Pr × Nat)) (hl : l.length ≤ 1000000) (w : World) (h : St w B fn l n) :
    Calls Try.prog 41 #[.pointer (some ⟨B, 0, none⟩)] w fun e w' => ∃ v, e = .returned v ∧ OwnP w' w.heap.size v (drainH less l) ∧ St w' B fn [] n ∧ Fr HT B w w' := by
  have HF := Lib.hid hf
  have hB := h.lt
  have C := Lib.hid (pop_all hf B n l (by omega) w h)
  clear h hf
  go_enter Try.func41, Try.ntmps41
  go_wp2_with fail
  refine C.out.mono ?_
  rintro e w1 (⟨a, ha, rfl, s1, f1⟩ | ⟨hnil, rfl, s1, f1⟩)
  · have D0 : Hid (DrnR less B fn n l w (.slice none 0 0) (.string a.1) (.bool true) w1) := by
      have hpl := pop_len less l
      have hlt := (List.getElem?_eq_some_iff.1 ha).1
      exact ⟨[], popH less l, a.1, rfl, OwnG.nil _ _ _ _ _, s1, f1, by simp; omega, .inl ⟨rfl, drain_some less ha, by simp; omega⟩⟩
    clear s1 f1 ha C
    go_wp2_with fail
    go_loopw [3, 4, 5] (fun v p b wr => Hid (DrnR less B fn n l w v p b wr)) (fun v _ _ _ => l.length + 1 - lenV v)
    case atStart => exact D0
    case round =>
      obtain ⟨acc, l', x, rfl, own, st, fr, hlen, (⟨rfl, e, hlt⟩ | ⟨rfl, e, hnil⟩)⟩ := hrel.out
      · obtain ⟨A, c, rfl, hc⟩ := ownK_shape own
        have OWN := Lib.hid own
        have ST := Lib.hid st
        have FR := Lib.hid fr
        have E := Lib.hid e
        have hws : w.heap.size ≤ wr.heap.size := fr.size
        clear hrel own st fr e hc D0
        go_wp2_with (at_builtin; refine appG_one pc_len pc_one (by decide) Try.underlying46 info_pr rfl (by decide) _ rfl (.tmp 17) (.tmp 19) rfl w.heap.size _ acc x rfl (World.ownsRow.alloc OWN.out _) wr.heap.size _ (heap_alloc_new _ _) rfl rfl (by simp; omega) (by omega) ?_)
        intro v1 w2 own1 b2 g2 _
        have g2' : World.grownBy _ w2 (Value.slice A acc.length c).ownBlock := g2
        clear g2
        have ow := World.ownsRow.alloc OWN.out (.cells #[.string x] 9 (0, 0))
        have S2 := Lib.hid ((ST.out.below ((Below.refl _ _).alloc (Nat.le_refl _) (.cells #[.string x] 9 (0, 0)))).grown ow not_ht g2')
        have F2 := Lib.hid ((FR.out.alloc (.cells #[.string x] 9 (0, 0))).grown_new ow (Nat.le_refl _) g2')
        obtain ⟨A1, c1, hv1, _⟩ := ownK_shape own1
        rw [show (acc ++ [x]).length = acc.length + 1 by simp] at hv1
        subst hv1
        have O2 := Lib.hid own1
        clear own1 b2 g2' ow OWN ST FR
        go_wp2_with fail
        refine (pop_all HF.out B n l' (by omega) _ S2.out).mono ?_
        rintro e w3 (⟨a2, ha2, rfl, s3, f3⟩ | ⟨hnil2, rfl, s3, f3⟩)
        · have hpl2 := pop_len less l'
          have hlt2 := (List.getElem?_eq_some_iff.1 ha2).1
          have N : Hid (DrnR less B fn n l w (.slice A1 (acc.length + 1) c1) (.string a2.1) (.bool true) w3) :=
            ⟨acc ++ [x], popH less l', a2.1, rfl, O2.out.fr f3 not_ht, s3, F2.out.trans f3, by simp; omega, .inl ⟨rfl, by rw [E.out, drain_some less ha2, List.append_assoc]; rfl, by simp; omega⟩⟩
          clear s3 f3 ha2 O2 F2 S2 E
          go_wp2_with fail
          go_roundw
          case rel => exact N
          case measure => simp [lenV]; omega
        · have N : Hid (DrnR less B fn n l w (.slice A1 (acc.length + 1) c1) (.string ByteArray.empty) (.bool false) w3) :=
            ⟨acc ++ [x], [], ByteArray.empty, rfl, O2.out.fr f3 not_ht, s3, F2.out.trans f3, by simp; omega, .inr ⟨rfl, by rw [E.out, hnil2, drain_nil], rfl⟩⟩
          clear s3 f3 O2 F2 S2 E hnil2
          go_wp2_with fail
          go_roundw
          case rel => exact N
          case measure => simp [lenV]; omega
      · have K : Hid (OwnP wr w.heap.size u3 (drainH less l) ∧ St wr B fn [] n ∧ Fr HT B w wr) := ⟨e ▸ own, st.nil_of hnil, fr⟩
        clear hrel own st fr e hnil
        go_wp2_with fail
        go_ret
        exact ⟨_, rfl, K.out⟩
  · have K : Hid (OwnP w1 w.heap.size (.slice none 0 0) (drainH less l) ∧ St w1 B fn [] n ∧ Fr HT B w w1) :=
      ⟨by rw [hnil, drain_nil]; exact OwnG.nil _ _ _ _ _, s1, f1⟩
    clear s1 f1 C
    go_wp2_with fail
    go_loopw [3, 4, 5] (fun v p b wr => v = .slice none 0 0 ∧ b = .bool false ∧ p = .string ByteArray.empty ∧ w1 = wr) (fun _ _ _ _ => 0)
    case atStart => exact ⟨rfl, rfl, rfl, rfl⟩
    case round =>
      obtain ⟨rfl, rfl, rfl, rfl⟩ := hrel
      go_wp2_with fail
      go_ret
      exact ⟨_, rfl, K.out⟩
/-- An element of a slice of strings. -/
theorem LstG.one {w : World} {v : Value} {l : List Pr} (h : LstP w v l) {i : Nat} {a : Pr} (ha : l[i]? = some a) : ∃ b o c, v = .slice (some ⟨b, o, none⟩) l.length c ∧ b < w.heap.size ∧ w.cell? ⟨b, o + i, none⟩ = some (.string a) := by
  obtain ⟨A, c, hv, _, _, hx⟩ := h
  have hi := (List.getElem?_eq_some_iff.1 ha).1
  obtain ⟨b, o, rfl, hb, hc⟩ := hx (by omega)
  refine ⟨b, o, c, hv, hb, ?_⟩
  have := hc _ _ (fl_at pc_len ha 0 (by omega))
  rwa [Nat.mul_one, Nat.add_zero] at this
set_option maxRecDepth 100000 in
set_option maxHeartbeats 4000000 in
theorem sort_any {fn : Value} {less : Pr → Pr → Bool} (hf : Fun fn less) (v : Value) (l : List Pr) (hl : l.length ≤ 1000000) (w : World) (h : LstP w v l) :
    Calls Try.prog 24 #[v, fn] w fun e w' => ∃ v', e = .returned v' ∧ OwnP w' w.heap.size v' (sortH less l) ∧ Below w.heap.size w w' := by
  have C := Lib.hid (new_any hf w)
  have HF := Lib.hid hf
  obtain ⟨K, rfl, -, -⟩ := hf
  have FN := fun W => fn_not_nil 48 (.func K) #[] #[] Try.underlying48 W
  have hh := h
  obtain ⟨A, c, rfl, -⟩ := hh
  have H := Lib.hid h
  clear h
  go_enter Try.func24, Try.ntmps24
  go_wp2_with fail
  refine C.out.mono ?_
  rintro e w1 ⟨rfl, s1, b1⟩
  have S1 := Lib.hid s1
  have B1 := Lib.hid b1
  clear s1 b1 C
  go_wp2_with fail
  go_loopw [16] (fun u wr => ∃ k : Nat, u = .int .i64 (k : Int) ∧ k ≤ l.length ∧ Hid (St wr w.heap.size (.func (.func K) #[] #[]) (pushAll less [] 0 (l.take k)) k) ∧ Hid (Below w.heap.size w wr)) (fun u _ => l.length - (intOf u).toNat)
  case atStart => exact ⟨0, rfl, Nat.zero_le _, S1, B1⟩
  case round =>
    obtain ⟨k, rfl, hk, HS, HB⟩ := hrel
    by_cases hlt : k < l.length
    · obtain ⟨x, hx⟩ := at_lt hlt
      obtain ⟨b, o, c', hv, hb, x0⟩ := LstG.one H.out hx
      cases hv
      rw [← HB.out.cell (p := ⟨b, _, none⟩) hb] at x0
      have hlen := pushAll_len less (l.take k) [] 0
      rw [List.length_nil, List.length_take, Nat.zero_add] at hlen
      have C := Lib.hid (push_any HF.out w.heap.size k (pushAll less [] 0 (l.take k)) x (by omega) (by omega) wr HS.out)
      have E : Hid (pushAll less [] 0 (l.take (k + 1)) = pushH less (pushAll less [] 0 (l.take k)) k x) := by
        rw [take_one l k x hx, pushAll_snoc, List.length_take, Nat.min_eq_left (by omega), Nat.zero_add]
        exact rfl
      have gk : (k : Int) < (l.length : Int) := by omega
      clear hx hlen
      go_wp2_with fail
      refine C.out.mono ?_
      rintro e w2 ⟨rfl, s2, f2⟩
      have S2 : Hid (St w2 w.heap.size (.func (.func K) #[] #[]) (pushAll less [] 0 (l.take (k + 1))) (k + 1)) := by rw [E.out]; exact s2
      have B2 : Hid (Below w.heap.size w w2) := HB.out.trans (f2.below HB.out.size)
      clear s2 f2 x0 HS HB C E
      go_wp2_with fail
      go_roundw
      case rel => exact ⟨k + 1, by go_num, by omega, S2, B2⟩
      case measure => simp [intOf]; omega
    · have hkl : k = l.length := by omega
      subst hkl
      rw [List.take_length] at HS
      have hlen := pushAll_len less l [] 0
      rw [List.length_nil, Nat.zero_add] at hlen
      have D := Lib.hid (drain_any HF.out w.heap.size l.length (pushAll less [] 0 l) (by omega) wr HS.out)
      clear hlen HS
      go_wp2_with fail
      refine D.out.mono ?_
      rintro e w2 ⟨v', rfl, o2, s2, f2⟩
      have R : Hid (OwnP w2 w.heap.size v' (sortH less l) ∧ Below w.heap.size w w2) := ⟨o2.down HB.out.size, HB.out.trans (f2.below HB.out.size)⟩
      clear o2 s2 f2 D HB
      go_wp2_with fail
      go_ret
      exact ⟨_, rfl, R.out⟩
end Go.Proofs.Ytnmomkldlajimaa.S
