/-
  What every walk of ours uses: contracts told of an earlier world, results and tests spelt as the walk spells them, strings indexed, sliced, joined and made of bytes. Condition: none beyond each theorem's own hypotheses. Slices of bytes and of strings that a call makes and lets grow: what an append leaves, a string made of bytes, an element read. Condition: the lengths are below the bounds that each theorem names. A slice of strings that came in or that the call itself made: it reads as a list of strings, and goes on doing so where only new blocks are made; one among the arguments of a row. Condition: none beyond each theorem's own hypotheses. Slices of ints that a call makes and lets grow, or that it is handed: what an append leaves, a part of a slice, an element read. Condition: the lengths are below the bounds that each theorem names. Slices of structs of any number of one-cell parts that a call makes and lets grow, or that it is handed: what an append leaves, an element read, an element stored. Condition: the lengths are below the bounds that each theorem names. A slice of ints among a row's arguments reads as a list of ints; the ranges of integers that came in. Condition: none beyond each theorem's own hypotheses. A slice of structs among a row's arguments reads as a list. Condition: none beyond each theorem's own hypotheses. Slices of structs of one-cell parts, sliced (l[i:j:m]), and an append to a slice that has no room. Condition: the lengths are below the bounds that each theorem names. What a call has left as it was: all blocks below one, and all whose type is none of those that it may write. Condition: none beyond each theorem's own hypotheses. Whether two lists of ints are the same (transitref03.SameInts): what the call answers; it only draws. Condition: lists of fewer than 2^40 ints. Structs with slices of structs inside, in a slice or by value, among a row's arguments. Condition: none beyond each theorem's own hypotheses. Rows of ints of the call's own: an element read and stored, an append that says where the row lies then. Condition: the lengths are below the bounds that each theorem names.
-/
import Derived.Test.YtkhalnjgbdpfhaaGreatRows
import Derived.Test.YtkhalnjgbdpfhaaGreatDigits
import Derived.WalkKit
import Derived.WalkSpells
import Derived.WalkLawsBesides
import Derived.WalkSmall
import Derived.Lib.Hide
import Derived.Lib.LaidTab
import Derived.Laws.RangeString
import Derived.Laws.RangeAny
import Derived.Laws.BytesArg
import Derived.LoopN
import Derived.Sort.Grow
import Derived.ShutString
import Derived.Deep.RegionHeld3
import Derived.Deep.QuietTactic
import Derived.BigQuiet
import Derived.Lib.AppendStr
import Derived.OwnWalk
import Derived.Laws.OwnMore
import Derived.Laws.IdiomStrings
import Derived.Deep.RegionLaw
import Derived.Deep.OwnRows
import Derived.Laws.Rows
import Derived.SliceStrings
import Derived.OpenShut
import Derived.Carry
import Derived.ChangeSlices
import Derived.ProofKit
import Derived.Deep.DeepHandedRow
import Derived.Deep.Slices
import Derived.ChangeSame
import Derived.Deep.Strs
import Derived.Lib.SmallJoins
namespace Go.Proofs.YtkhalnjgbdpfhaaGreat
open Go.RowKit

/-- A contract told of an earlier world. -/
theorem rel {P : Program} {f : FuncId} {args : Array Value} {w W : World} {x : Ending} (h : Calls P f args w fun e w' => e = x ∧ Below w.heap.size w w') (hb : Below W.heap.size W w) :
    Calls P f args w fun e w' => e = x ∧ Below W.heap.size W w' :=
  h.mono fun _ _ ⟨he, hc⟩ => ⟨he, hb.trans (hc.mono hb.size)⟩
theorem below_drewN {B : Nat} {a w : World} (h : Below B a w) (n : Nat) : Below B a (w.drewN n) := ⟨h.os, h.tape, h.output, h.size, h.block⟩
/-- A contract that leaves the world alone, told so. -/
theorem still {P : Program} {f : FuncId} {args : Array Value} {w : World} {x : Ending} (h : Calls P f args w fun e w' => e = x ∧ w = w') :
    Calls P f args w fun e w' => e = x ∧ Below w.heap.size w w' :=
  h.mono fun _ _ ⟨he, hc⟩ => ⟨he, hc ▸ Below.refl _ _⟩

theorem results_tmp4 {fn : Func} {t u v x : Tmp} (h : fn.results = #[.tmp t, .tmp u, .tmp v, .tmp x]) (tmps : Array Value) (P : Program) (w : World) :
    (results fn tmps).run P w = .ok (.tuple #[tmps.getD t undef, tmps.getD u undef, tmps.getD v undef, tmps.getD x undef]) w := by simp [results, h]

theorem run_at (s : ByteArray) (i : Nat) (h : i < s.size) (W : World) : (Instr.index 9 (.string s) (.int .i64 i)).run Tryz.prog W = .ok (.int .u8 s[i].toNat) W := by
  go_simp
theorem below_iter (w : World) (s : ByteArray) (k : Nat) : Below w.heap.size w (w.iter s k) := (Below.refl _ _).alloc (Nat.le_refl _) _

theorem beq_false {a b : Int} (h : a ≠ b) : (a == b) = false := by rw [beq_eq_false_iff_ne]; exact h
theorem bne_true {a b : Int} (h : a ≠ b) : (a != b) = true := by rw [bne, beq_false h]; rfl

theorem beq_true {a b : Int} (h : a = b) : (a == b) = true := by rw [beq_iff_eq]; exact h

theorem neq_false {a b : Int} (h : a = b) : (a != b) = false := by rw [h]; simp

theorem str_app (a b : List UInt8) : str a ++ str b = str (a ++ b) := by
  apply ByteArray.ext
  simp [str]
theorem ret_str {a b : ByteArray} (h : a = b) {n : Int} : Ending.returned (.tuple #[.string a, .int .i64 n]) = Ending.returned (.tuple #[.string b, .int .i64 n]) := by rw [h]
theorem two_eq (x : Int) (h0 : 0 ≤ x) : [UInt8.ofNat (48 + x / 10).toNat, UInt8.ofNat (48 + x % 10).toNat] = two x := by
  unfold two
  rw [show (48 + x / 10).toNat = 48 + x.toNat / 10 by omega, show (48 + x % 10).toNat = 48 + x.toNat % 10 by omega]

theorem ret_text {a b : List UInt8} (h : a = b) {n : Int} : Ending.returned (.tuple #[.string (str a), .int .i64 n]) = Ending.returned (.tuple #[.string (str b), .int .i64 n]) := by rw [h]
theorem ret_int {k : IntKind} {a b : Int} (h : a = b) : Ending.returned (.int k a) = .returned (.int k b) := by rw [h]
theorem ret_bool {a b : Bool} (h : a = b) : Ending.returned (.bool a) = .returned (.bool b) := by rw [h]
theorem ret_intb {a b : Int} {c : Bool} (h : a = b) : Ending.returned (.tuple #[.int .i64 a, .bool c]) = .returned (.tuple #[.int .i64 b, .bool c]) := by rw [h]
theorem ret_civ {a b c x y z : Int} (h1 : a = x) (h2 : b = y) (h3 : c = z) : Ending.returned (.tuple #[.int .i64 a, .int .i64 b, .int .i64 c, .bool true]) = Ending.returned (.tuple #[.int .i64 x, .int .i64 y, .int .i64 z, .bool true]) := by rw [h1, h2, h3]
theorem ret_two {a b c d : Int} (h : a = c) (k : b = d) : Ending.returned (.tuple #[.int .i64 a, .int .i64 b]) = .returned (.tuple #[.int .i64 c, .int .i64 d]) := by rw [h, k]

theorem size_str (l : List UInt8) : (str l).size = l.length := by show l.toArray.size = _; simp
theorem below_grow (w : World) (k : Nat) (os : Array Obj) : Below w.heap.size w (Sort.grow (w.drewN k) os) :=
  ⟨rfl, rfl, rfl, by simp, fun j hj => Sort.heap_grow_old (w.drewN k) os hj⟩
theorem ret_sstr {a b : ByteArray} (h : a = b) : Ending.returned (.string a) = Ending.returned (.string b) := by rw [h]
theorem idx_run (l : List UInt8) (i : Nat) (c : UInt8) (h : l[i]? = some c) (e : Int) (he : e = i) (W : World) : (Instr.index 9 (.string (str l)) (.int .i64 e)).run Tryz.prog W = .ok (.int .u8 c.toNat) W := by
  subst he
  have hi : i < l.length := (List.getElem?_eq_some_iff.1 h).1
  rw [run_at (str l) i (by rw [size_str]; exact hi) W]
  have : (str l)[i]'(by rw [size_str]; exact hi) = c := (List.getElem?_eq_some_iff.1 h).2
  rw [this]
theorem slh_run (l : List UInt8) (j : Nat) (hj : j ≤ l.length) (m : List UInt8) (hm : l.take j = m) (e : Int) (he : e = j) (W : World) : (Instr.slice 9 (.string (str l)) none (some (.int .i64 e)) none).run Tryz.prog W = .ok (.string (str m)) W := by
  subst he hm
  rw [run_slice_string_h W 9 (str l) Tryz.underlying9 .i64 j (by omega) (by rw [size_str]; omega)]
  congr 2
  rw [Lib.extract_eq]
  simp
theorem sll_run (l : List UInt8) (j : Nat) (hj : j ≤ l.length) (m : List UInt8) (hm : l.drop j = m) (e : Int) (he : e = j) (W : World) : (Instr.slice 9 (.string (str l)) (some (.int .i64 e)) none none).run Tryz.prog W = .ok (.string (str m)) W := by
  subst he hm
  rw [run_slice_string_l W 9 (str l) Tryz.underlying9 .i64 j (by omega) (by rw [size_str]; omega)]
  congr 2
  rw [Lib.extract_eq, size_str]
  simp
  rw [List.take_of_length_le (by simp)]
theorem slb_run (l : List UInt8) (i j : Nat) (hi : i ≤ j) (hj : j ≤ l.length) (m : List UInt8) (hm : (l.drop i).take (j - i) = m) (e f : Int) (he : e = i) (hf : f = j) (W : World) : (Instr.slice 9 (.string (str l)) (some (.int .i64 e)) (some (.int .i64 f)) none).run Tryz.prog W = .ok (.string (str m)) W := by
  subst he hf hm
  rw [run_slice_string W 9 (str l) .i64 .i64 i j Tryz.underlying9 (by omega) (by omega) (by rw [size_str]; omega)]
  congr 2
  rw [Lib.extract_eq]
  simp

theorem ret_pair {a b : Int × Int} (h : a = b) : Ending.returned (.tuple #[.int .i64 a.1, .int .i64 a.2]) = Ending.returned (.tuple #[.int .i64 b.1, .int .i64 b.2]) := by rw [h]

/-- x == nil at a slice. -/
theorem run_equalIn_sl (d : Nat) (t : TypeId) (A : Option Addr) (n c : Nat) {e : TypeId} (h : Tryz.prog.underlying t = some (.slice e)) (w : World) : (Op.equalIn (d + 1) t (.slice A n c) (.slice none 0 0)).run Tryz.prog w = .ok A.isNone w := by
  cases A <;> simp [Op.equalIn, run_underlying h]
theorem run_equal_sl (t : TypeId) (A : Option Addr) (n c : Nat) {e : TypeId} (h : Tryz.prog.underlying t = some (.slice e)) (w : World) : (Op.equal t (.slice A n c) (.slice none 0 0)).run Tryz.prog w = .ok A.isNone w := run_equalIn_sl 9999 t A n c h w
theorem slice_is_nil (t : TypeId) (A : Option Addr) (n c : Nat) {e : TypeId} (h : Tryz.prog.underlying t = some (.slice e)) (w : World) : (binOp BinOp.eql t (.slice A n c) (.slice none 0 0)).run Tryz.prog w = .ok (.bool A.isNone) w := by
  simp only [binOp]
  simp [run_equal_sl t A n c h w]
end Go.Proofs.YtkhalnjgbdpfhaaGreat
namespace Go.Proofs.YtkhalnjgbdpfhaaGreat
open Go.RowKit

/-- Bytes as cells. -/
abbrev bts (l : List UInt8) : List Value := l.map fun b => Value.int .u8 b.toNat
/-- Strings as cells. -/
abbrev sts (l : List (List UInt8)) : List Value := l.map fun s => Value.string (str s)
theorem info_u8 : (Tryz.prog.info? 5).map (fun i => (i.zero, i.size, i.bytes)) = some (some (.int .u8 0), 1, 1) := by kernel_rfl
theorem info_str : (Tryz.prog.info? 9).map (fun i => (i.zero, i.size, i.bytes)) = some (some (.string ByteArray.empty), 1, 16) := by kernel_rfl
/-- The value is a slice of bytes of the call's own, with these bytes. -/
def OwnB (w : World) (base : Nat) (v : Value) (l : List UInt8) : Prop := w.ownsRow base 5 1 v l.length (bts l)
/-- The value is a slice of strings of the call's own, with these strings. -/
def OwnS (w : World) (base : Nat) (v : Value) (l : List (List UInt8)) : Prop := w.ownsRow base 9 1 v l.length (sts l)
theorem OwnB.nil (w : World) (base : Nat) : OwnB w base (.slice none 0 0) [] := World.ownsRow_nil _ _ _ _
theorem OwnS.nil (w : World) (base : Nat) : OwnS w base (.slice none 0 0) [] := World.ownsRow_nil _ _ _ _
theorem bts_one (l : List UInt8) : ∀ u ∈ bts l, u.oneCell' = true := by
  intro u hu
  obtain ⟨b, _, rfl⟩ := List.mem_map.1 hu
  rfl
theorem sts_one (l : List (List UInt8)) : ∀ u ∈ sts l, u.oneCell' = true := by
  intro u hu
  obtain ⟨b, _, rfl⟩ := List.mem_map.1 hu
  rfl
theorem own_shape {w : World} {base : Nat} {e : TypeId} {v : Value} {n : Nat} {xs : List Value} (h : w.ownsRow base e 1 v n xs) : ∃ A c, v = .slice A n c ∧ n ≤ c ∧ (0 < n → ∃ g, A = some ⟨g, 0, none⟩ ∧ base ≤ g ∧ g < w.heap.size ∧ ∀ j u, xs[j]? = some u → w.cell? ⟨g, 0 + j, none⟩ = some u) := by
  have hl := h.1
  rcases h.2 with ⟨rfl, rfl⟩ | ⟨g, cap, cur, rfl, hb, hg, hn, _, _, ht⟩
  · exact ⟨none, 0, rfl, Nat.le_refl _, fun h => absurd h (Nat.lt_irrefl _)⟩
  · refine ⟨some ⟨g, 0, none⟩, cap, rfl, hn, fun _ => ⟨g, rfl, hb, ?_, ?_⟩⟩
    · rcases Nat.lt_or_ge g w.heap.size with h | h
      · exact h
      · rw [Array.getElem?_eq_none h] at hg; cases hg
    · intro j u hu
      rw [Nat.zero_add, cell_of_row w g j cur e (0, 0) hg]
      have hj := (List.getElem?_eq_some_iff.1 hu).1
      rw [← ht, List.getElem?_take] at hu
      split at hu
      · rw [← hu]; simp
      · cases hu
theorem own_shape' {w : World} {base : Nat} {e : TypeId} {v : Value} {n : Nat} {xs : List Value} (h : w.ownsRow base e 1 v n xs) : ∃ A c, v = .slice A n c := by
  obtain ⟨A, c, hv, _⟩ := own_shape h
  exact ⟨A, c, hv⟩
/-- What is owned stays owned where nothing below has changed but new blocks were made. -/
theorem own_below {w w' : World} {base : Nat} {e : TypeId} {v : Value} {n : Nat} {xs : List Value} (h : w.ownsRow base e 1 v n xs) (hb : Below w.heap.size w w') : w'.ownsRow base e 1 v n xs := by
  refine ⟨h.1, ?_⟩
  rcases h.2 with h0 | ⟨g, cap, cur, hv, hbg, hg, hr⟩
  · exact Or.inl h0
  · have hlt : g < w.heap.size := by
      rcases Nat.lt_or_ge g w.heap.size with h | h
      · exact h
      · rw [Array.getElem?_eq_none h] at hg; cases hg
    exact Or.inr ⟨g, cap, cur, hv, hbg, (hb.block g hlt).trans hg, hr⟩
theorem own_grown {w w' : World} {base : Nat} {e : TypeId} {v : Value} {n : Nat} {xs : List Value} (h : w.ownsRow base e 1 v n xs) (hg : w.grownBy w' v.ownBlock) (hb : base ≤ w.heap.size) : Below base w w' :=
  (Below.refl _ _).grown hg hb fun k hk => (h.lt k hk).1

/-- What is owned stays owned where its own blocks stay. -/
theorem own_keep {w w' : World} {base : Nat} {e : TypeId} {v : Value} {n : Nat} {xs : List Value} (h : w.ownsRow base e 1 v n xs) (hk : ∀ k, base ≤ k → k < w.heap.size → w'.heap[k]? = w.heap[k]?) : w'.ownsRow base e 1 v n xs := by
  refine ⟨h.1, ?_⟩
  rcases h.2 with h0 | ⟨g, cap, cur, hv, hbg, hg, hr⟩
  · exact Or.inl h0
  · have hlt : g < w.heap.size := by
      rcases Nat.lt_or_ge g w.heap.size with h | h
      · exact h
      · rw [Array.getElem?_eq_none h] at hg; cases hg
    exact Or.inr ⟨g, cap, cur, hv, hbg, (hk g hbg hlt).trans hg, hr⟩
theorem own_down {w : World} {base base' : Nat} {e : TypeId} {v : Value} {n : Nat} {xs : List Value} (h : w.ownsRow base e 1 v n xs) (hb : base' ≤ base) : w.ownsRow base' e 1 v n xs := by
  refine ⟨h.1, ?_⟩
  rcases h.2 with h0 | ⟨g, cap, cur, hv, hbg, hr⟩
  · exact Or.inl h0
  · exact Or.inr ⟨g, cap, cur, hv, Nat.le_trans hb hbg, hr⟩

/-- A byte of a string. -/
theorem at_run (s : ByteArray) (i : Nat) (c : UInt8) (h : s.data.toList[i]? = some c) (e : Int) (he : e = i) (W : World) : (Instr.index 9 (.string s) (.int .i64 e)).run Tryz.prog W = .ok (.int .u8 c.toNat) W := by
  subst he
  have hi : i < s.size := by have := (List.getElem?_eq_some_iff.1 h).1; simpa using this
  rw [run_at s i hi W]
  have := list_at s i hi
  rw [h] at this
  rw [Option.some.inj this]
theorem get_at' (s : ByteArray) (i : Nat) (h : i < s.size) : ∃ c, s.data.toList[i]? = some c := ⟨s[i], list_at s i h⟩
theorem sz_list (s : ByteArray) : s.data.toList.length = s.size := by simp
theorem str_list (s : ByteArray) : str s.data.toList = s := by cases s; rfl
theorem nil_iff (s : ByteArray) : s.toList.isEmpty = decide (s.size = 0) := by
  rw [Lib.toList_data]
  cases h : s.data.toList with
  | nil => have := sz_list s; rw [h] at this; simp [← this]
  | cons c r => have := sz_list s; rw [h] at this; simp [← this]
theorem str_same (a b : List UInt8) : ((str a).toList == (str b).toList) = decide (a = b) := by
  rw [Lib.toList_data, Lib.toList_data]
  show (a == b) = _
  rw [Bool.eq_iff_iff]
  simp
theorem bytes_ne {a b : ByteArray} (h : a ≠ b) : (a.toList == b.toList) = false := by
  rw [beq_eq_false_iff_ne, Lib.toList_data, Lib.toList_data]
  intro e
  apply h
  rw [← str_list a, ← str_list b, e]
theorem bytes_eq {a b : ByteArray} (h : a = b) : (a.toList == b.toList) = true := by rw [h]; simp
/-- A call that leaves the world alone, in a region that draws. -/
theorem quiet_of {P : Program} {f : FuncId} {args : Array Value} {x : Value} (h : ∀ w : World, Calls P f args w fun e w' => e = .returned x ∧ w = w') (w : World) (n : Nat) : Calls P f args (w.drewN n) fun e w'' => e = .returned x ∧ ∃ m, w'' = w.drewN m :=
  Calls.quiet_of_same ((h _).mono fun _ _ ⟨a, b⟩ => ⟨a, b.symm⟩)
/-- Parts of a string, each under a name of its own. -/
theorem sl_from (s t : ByteArray) (j : Nat) (hj : j ≤ s.size) (ht : s.data.toList.drop j = t.data.toList) (e : Int) (he : e = j) (W : World) : (Instr.slice 9 (.string s) (some (.int .i64 e)) none none).run Tryz.prog W = .ok (.string t) W := by
  have h := sll_run s.data.toList j (by rw [sz_list]; exact hj) _ ht e he W
  rw [str_list, str_list] at h
  exact h
theorem sl_to (s t : ByteArray) (j : Nat) (hj : j ≤ s.size) (ht : s.data.toList.take j = t.data.toList) (e : Int) (he : e = j) (W : World) : (Instr.slice 9 (.string s) none (some (.int .i64 e)) none).run Tryz.prog W = .ok (.string t) W := by
  have h := slh_run s.data.toList j (by rw [sz_list]; exact hj) _ ht e he W
  rw [str_list, str_list] at h
  exact h
theorem sl_mid (s t : ByteArray) (i j : Nat) (hi : i ≤ j) (hj : j ≤ s.size) (ht : (s.data.toList.drop i).take (j - i) = t.data.toList) (e f : Int) (he : e = i) (hf : f = j) (W : World) : (Instr.slice 9 (.string s) (some (.int .i64 e)) (some (.int .i64 f)) none).run Tryz.prog W = .ok (.string t) W := by
  have h := slb_run s.data.toList i j hi (by rw [sz_list]; exact hj) _ ht e f he hf W
  rw [str_list, str_list] at h
  exact h
theorem as_str (l : List UInt8) : ∃ s : ByteArray, s.data.toList = l ∧ s.size = l.length ∧ str l = s := ⟨str l, rfl, size_str l, rfl⟩
/-- A string's length, off its value. -/
def szOf : Value → Nat | .string s => s.size | _ => 0
end Go.Proofs.YtkhalnjgbdpfhaaGreat
namespace Go.Proofs.YtkhalnjgbdpfhaaGreat
open Go.RowKit

/-- The value is a slice that reads as these strings. -/
def Lst (w : World) (v : Value) (ls : List (List UInt8)) : Prop := ∃ A c, v = .slice A ls.length c ∧ (ls.length ≤ c ∧ (A = none → c = 0)) ∧ (0 < ls.length → ∃ b o, A = some ⟨b, o, none⟩ ∧ b < w.heap.size ∧ ∀ (j : Nat) x, (sts ls)[j]? = some x → w.cell? ⟨b, o + j, none⟩ = some x)
theorem OwnS.lst {w : World} {base : Nat} {v : Value} {l : List (List UInt8)} (h : OwnS w base v l) : Lst w v l := by
  obtain ⟨A, c, hv, hc, hx⟩ := own_shape h
  refine ⟨A, c, hv, ⟨hc, ?_⟩, fun h0 => ?_⟩
  · rintro rfl
    rcases h.2 with ⟨h0, _⟩ | ⟨g, cap, cur, h0, _⟩
    · rw [hv] at h0; simp at h0; exact h0.2
    · rw [hv] at h0; simp at h0
  obtain ⟨g, hA, _, hg, hcell⟩ := hx h0
  exact ⟨g, 0, hA, hg, hcell⟩
theorem Lst.below {w w' : World} {v : Value} {l : List (List UInt8)} (h : Lst w v l) (hb : Below w.heap.size w w') : Lst w' v l := by
  obtain ⟨A, c, hv, hc, hx⟩ := h
  refine ⟨A, c, hv, hc, fun h0 => ?_⟩
  obtain ⟨b, o, hA, hbl, hcell⟩ := hx h0
  exact ⟨b, o, hA, Nat.lt_of_lt_of_le hbl hb.size, fun j x hj => (hb.cell (p := ⟨b, o + j, none⟩) hbl).trans (hcell j x hj)⟩
theorem OwnS.len {w : World} {base : Nat} {v : Value} {l : List (List UInt8)} (h : OwnS w base v l) : l.length ≤ 9223372036854775807 := by
  rcases h.2 with ⟨_, h0⟩ | ⟨g, cap, cur, _, _, _, hn, hm, _⟩
  · omega
  · unfold maxLen at hm
    omega
theorem Lst.nil (w : World) : Lst w (.slice none 0 0) [] := ⟨none, 0, rfl, ⟨Nat.le_refl _, fun _ => rfl⟩, fun h => absurd h (Nat.lt_irrefl _)⟩
theorem sts_at (l : List (List UInt8)) (k : Nat) (x : List UInt8) (h : l[k]? = some x) : (sts l)[k]? = some (.string (str x)) := by
  unfold sts
  rw [List.getElem?_map, h]
  rfl

section
open Go.ChangeShapes Go.WideShapes
theorem cells_string : Tryz.prog.cellsOf 9 = 1 := by kernel_rfl
theorem laid_out : laidOutB Tryz.prog = true := by kernel_rfl
end
end Go.Proofs.YtkhalnjgbdpfhaaGreat
namespace Go.Proofs.YtkhalnjgbdpfhaaGreat
open Go.RowKit

/-- Ints as cells. -/
abbrev ints (l : List Int) : List Value := l.map fun x => Value.int .i64 x
theorem info_int : (Tryz.prog.info? 3).map (fun i => (i.zero, i.size, i.bytes)) = some (some (.int .i64 0), 1, 8) := by kernel_rfl
theorem size_int : ∀ w, (Go.sizeOf 3).run Tryz.prog w = .ok 1 w := fun w => by
  obtain ⟨i, hi, _, hsz, _⟩ := info_parts info_int
  simp [sizeOf, typeInfo, hi, hsz]
/-- The value is a slice of ints of the call's own, with these ints. -/
def OwnI (w : World) (base : Nat) (v : Value) (l : List Int) : Prop := w.ownsRow base 3 1 v l.length (ints l)
/-- The value is a slice that reads as these ints. -/
def LstI (w : World) (v : Value) (ls : List Int) : Prop := ∃ A c, v = .slice A ls.length c ∧ ls.length ≤ c ∧ (A = none → c = 0) ∧ (0 < ls.length → ∃ b o, A = some ⟨b, o, none⟩ ∧ b < w.heap.size ∧ ∀ (j : Nat) x, (ints ls)[j]? = some x → w.cell? ⟨b, o + j, none⟩ = some x)
theorem OwnI.nil (w : World) (base : Nat) : OwnI w base (.slice none 0 0) [] := World.ownsRow_nil _ _ _ _
theorem ints_one (l : List Int) : ∀ u ∈ ints l, u.oneCell' = true := by
  intro u hu
  obtain ⟨b, _, rfl⟩ := List.mem_map.1 hu
  rfl
theorem ints_at (l : List Int) (k : Nat) (x : Int) (h : l[k]? = some x) : (ints l)[k]? = some (.int .i64 x) := by
  unfold ints
  rw [List.getElem?_map, h]
  rfl
theorem OwnI.lst {w : World} {base : Nat} {v : Value} {l : List Int} (h : OwnI w base v l) : LstI w v l := by
  obtain ⟨A, c, hv, hc, hx⟩ := own_shape h
  refine ⟨A, c, hv, hc, ?_, fun h0 => ?_⟩
  · rintro rfl
    rcases h.2 with ⟨h0, _⟩ | ⟨g, cap, cur, h0, _⟩
    · rw [hv] at h0; simp at h0; exact h0.2
    · rw [hv] at h0; simp at h0
  · obtain ⟨g, hA, _, hg, hcell⟩ := hx h0
    exact ⟨g, 0, hA, hg, hcell⟩
theorem OwnI.len {w : World} {base : Nat} {v : Value} {l : List Int} (h : OwnI w base v l) : l.length ≤ 9223372036854775807 := by
  rcases h.2 with ⟨_, h0⟩ | ⟨g, cap, cur, _, _, _, hn, hm, _⟩
  · omega
  · unfold maxLen at hm
    omega
theorem LstI.nil (w : World) : LstI w (.slice none 0 0) [] := ⟨none, 0, rfl, Nat.le_refl _, fun _ => rfl, fun h => absurd h (Nat.lt_irrefl _)⟩
theorem LstI.below {w w' : World} {v : Value} {l : List Int} (h : LstI w v l) (hb : Below w.heap.size w w') : LstI w' v l := by
  obtain ⟨A, c, hv, hc, hn, hx⟩ := h
  refine ⟨A, c, hv, hc, hn, fun h0 => ?_⟩
  obtain ⟨b, o, hA, hbl, hcell⟩ := hx h0
  exact ⟨b, o, hA, Nat.lt_of_lt_of_le hbl hb.size, fun j x hj => (hb.cell (p := ⟨b, o + j, none⟩) hbl).trans (hcell j x hj)⟩
theorem OwnI.below {w w' : World} {base : Nat} {v : Value} {l : List Int} (h : OwnI w base v l) (hb : Below w.heap.size w w') : OwnI w' base v l := own_below h hb

/-- A row of literals. -/
theorem lsti_lit (w : World) (cs : Array Value) (ls : List Int) (h : cs.toList = ints ls) (n : Nat) (hn : ls.length = n) : LstI (w.alloc (.cells cs 3 (0, 0))) (.slice (some ⟨w.heap.size, 0, none⟩) n n) ls := by
  subst hn
  refine ⟨_, _, rfl, Nat.le_refl _, fun h => absurd h (by simp), fun _ => ⟨w.heap.size, 0, rfl, by simp, fun j x hj => ?_⟩⟩
  rw [Nat.zero_add, cell_of_row _ _ j _ _ _ (heap_alloc_new _ _), ← hj, ← h]
  simp
/-- Appending one int. -/
theorem app_int (w : World) {ops : Array Oper} {rest : List Oper} {o : Oper} {a : Act} {Q : Exit → Act → World → Prop} (hgd : o.guard = none) (s x : Operand)
    (ho : o.op = .call { callee := .builtin .append, args := #[s, x], argTypes := #[137, 137] }) (base : Nat) (v : Value) (l : List Int) (m : Int) (hs : a.eval s = v) (hown : OwnI w base v l)
    (k : Nat) (cells : Array Value) (hk : w.heap[k]? = some (.cells cells 3 (0, 0))) (hc : cells = #[.int .i64 m]) (hx : a.eval x = .slice (some ⟨k, 0, none⟩) 1 1) (hb : base ≤ w.heap.size)
    (hl : l.length + 1 ≤ 1099511627776) (h : ∀ v' w', OwnI w' base v' (l ++ [m]) → Below base w w' → wpList Tryz.prog ops Q rest (a.put o.dst v') w') : wpList Tryz.prog ops Q (o :: rest) a w := by
  obtain ⟨i, hi, hz, hsz, hby⟩ := info_parts info_int
  refine wpList_append_own w hgd s x 137 ho base 3 i _ 1 8 Tryz.underlying137 hi hz hsz hby rfl (by decide) v l.length (ints l) hs hown ⟨k, 0, none⟩ 1 1 (ints [m]) hx (by simp) ?_ (ints_one [m]) (by unfold maxLen; omega) (by omega) hb ?_
  · intro j u hu
    have hadd : (⟨k, 0, none⟩ : Addr).add j = ⟨k, j, none⟩ := by unfold Addr.add; split <;> simp_all
    rw [hadd, cell_of_row w k j cells _ _ hk, ← hu, hc]
    simp
  · intro v' w' h1 h2 _
    refine h v' w' ?_ (own_grown hown h2 hb)
    unfold OwnI ints
    rw [List.length_append, List.map_append]
    exact h1
/-- Appending a slice of ints, a nil one too. -/
theorem app_ints (w : World) {ops : Array Oper} {rest : List Oper} {o : Oper} {a : Act} {Q : Exit → Act → World → Prop} (hgd : o.guard = none) (s x : Operand)
    (ho : o.op = .call { callee := .builtin .append, args := #[s, x], argTypes := #[137, 137] }) (base : Nat) (v : Value) (l m : List Int) (hs : a.eval s = v) (hown : OwnI w base v l)
    (y : Value) (hx : a.eval x = y) (hy : LstI w y m) (hb : base ≤ w.heap.size)
    (hl : l.length + m.length ≤ 1099511627776) (h : ∀ v' w', OwnI w' base v' (l ++ m) → Below base w w' → wpList Tryz.prog ops Q rest (a.put o.dst v') w') : wpList Tryz.prog ops Q (o :: rest) a w := by
  obtain ⟨i, hi, hz, hsz, hby⟩ := info_parts info_int
  obtain ⟨A, c, rfl, hc, hn, hcell⟩ := hy
  cases A with
  | none =>
    obtain rfl := hn rfl
    have h0 : m = [] := List.length_eq_zero_iff.1 (by omega)
    subst h0
    refine wpList_plain hgd fun K hK => ?_
    have hrun := run_append_owned_none (P := Tryz.prog) w base 137 o.type 3 i 1 Tryz.underlying137 hi v l.length (ints l) hown
    unfold Oper.wp
    simp only [List.length_nil] at hx
    simp [execOp, ho, resolve, invoke, builtin, hs, hx, hrun, Result.andThen]
    exact hK _ _ (h v w (by rw [List.append_nil]; exact hown) (Below.refl _ _))
  | some ad =>
    have hcells : ∀ (j : Nat) u, (ints m)[j]? = some u → w.cell? (ad.add j) = some u := by
      intro j u hu
      have hj := (List.getElem?_eq_some_iff.1 hu).1
      rw [List.length_map] at hj
      obtain ⟨b, f, hA, _, hcc⟩ := hcell (by omega)
      obtain rfl := Option.some.inj hA
      have hadd : (⟨b, f, none⟩ : Addr).add j = ⟨b, f + j, none⟩ := by unfold Addr.add; split <;> simp_all
      rw [hadd]
      exact hcc j u hu
    refine wpList_append_own w hgd s x 137 ho base 3 i _ 1 8 Tryz.underlying137 hi hz hsz hby rfl (by decide) v l.length (ints l) hs hown ad m.length c (ints m) hx (by simp) hcells (ints_one m) (by unfold maxLen; omega) (by omega) hb ?_
    intro v' w' h1 h2 _
    refine h v' w' ?_ (own_grown hown h2 hb)
    unfold OwnI ints
    rw [List.length_append, List.map_append]
    exact h1

/-! ### Parts of a slice -/
theorem elem_ints : Tryz.prog.elem 137 = 3 := by simp [Program.elem, Tryz.underlying137]
theorem under_ints : Tryz.prog.underlying 137 = some (.slice (Tryz.prog.elem 137)) := by rw [elem_ints]; exact Tryz.underlying137
theorem LstI.part {w : World} {A : Option Addr} {l : List Int} {c : Nat} (hc : l.length ≤ c) (hn : A = none → c = 0) (hx : 0 < l.length → ∃ b o, A = some ⟨b, o, none⟩ ∧ b < w.heap.size ∧ ∀ (j : Nat) x, (ints l)[j]? = some x → w.cell? ⟨b, o + j, none⟩ = some x)
    (i j : Nat) (hi : i ≤ j) (hj : j ≤ l.length) : LstI w (sliced A i j c 1) ((l.drop i).take (j - i)) := by
  have hlen : ((l.drop i).take (j - i)).length = j - i := by rw [List.length_take, List.length_drop]; omega
  refine ⟨if c = i then A else A.map (·.add (i * 1)), c - i, ?_, by omega, ?_, fun h0 => ?_⟩
  · unfold sliced
    rw [hlen]
  · intro h
    split at h
    · have := hn h; omega
    · cases A with
      | none => have := hn rfl; omega
      | some a => simp at h
  · rw [hlen] at h0
    obtain ⟨b, o, rfl, hb, hcell⟩ := hx (by omega)
    have hne : ¬ c = i := by omega
    refine ⟨b, o + i, ?_, hb, fun k x hk => ?_⟩
    · rw [if_neg hne]
      show some ((⟨b, o, none⟩ : Addr).add (i * 1)) = _
      rw [Nat.mul_one, Addr.add_lit]
    · rw [Nat.add_assoc]
      refine hcell (i + k) x ?_
      have hk2 := (List.getElem?_eq_some_iff.1 hk).1
      rw [List.length_map, hlen] at hk2
      rw [← hk]
      unfold ints
      rw [List.getElem?_map, List.getElem?_map, List.getElem?_take, if_pos hk2, List.getElem?_drop]
/-- l[:j]. -/
theorem ints_to {w : World} {v : Value} {l : List Int} (h : LstI w v l) (j : Nat) (hj : j ≤ l.length) (e : Int) (he : e = j) : ∃ x, (∀ W, (Instr.slice 137 v none (some (.int .i64 e)) none).run Tryz.prog W = .ok x W) ∧ LstI w x (l.take j) := by
  subst he
  obtain ⟨A, c, rfl, hc, hn, hx⟩ := h
  refine ⟨sliced A 0 j c 1, fun W => ?_, ?_⟩
  · rw [run_slice_h W 137 A l.length c under_ints .i64 j (by omega) (by omega), elem_ints, size_int]
    rfl
  · have := LstI.part hc hn hx 0 j (Nat.zero_le _) hj
    rw [List.drop_zero, Nat.sub_zero] at this
    exact this
/-- l[i:]. -/
theorem ints_from {w : World} {v : Value} {l : List Int} (h : LstI w v l) (i : Nat) (hi : i ≤ l.length) (e : Int) (he : e = i) : ∃ x, (∀ W, (Instr.slice 137 v (some (.int .i64 e)) none none).run Tryz.prog W = .ok x W) ∧ LstI w x (l.drop i) := by
  subst he
  obtain ⟨A, c, rfl, hc, hn, hx⟩ := h
  refine ⟨sliced A i l.length c 1, fun W => ?_, ?_⟩
  · rw [run_slice_l W 137 A l.length c under_ints .i64 i (by omega) (by omega), elem_ints, size_int]
    rfl
  · have := LstI.part hc hn hx i l.length hi (Nat.le_refl _)
    rw [List.take_of_length_le (by rw [List.length_drop]; exact Nat.le_refl _)] at this
    exact this
/-- l[i:j]. -/
theorem ints_mid {w : World} {v : Value} {l : List Int} (h : LstI w v l) (i j : Nat) (hi : i ≤ j) (hj : j ≤ l.length) (e f : Int) (he : e = i) (hf : f = j) : ∃ x, (∀ W, (Instr.slice 137 v (some (.int .i64 e)) (some (.int .i64 f)) none).run Tryz.prog W = .ok x W) ∧ LstI w x ((l.drop i).take (j - i)) := by
  subst he hf
  obtain ⟨A, c, rfl, hc, hn, hx⟩ := h
  refine ⟨sliced A i j c 1, fun W => ?_, LstI.part hc hn hx i j hi hj⟩
  rw [run_slice_lh W 137 A l.length c under_ints .i64 .i64 i j (by omega) (by omega) (by omega), elem_ints, size_int]
  rfl
end Go.Proofs.YtkhalnjgbdpfhaaGreat
namespace Go.Proofs.YtkhalnjgbdpfhaaGreat
open Go.RowKit

/-- An append to a row of the call's own leaves it where it was, or in a new block. -/
theorem run_append_where {P : Program} (w : World) (base : Nat) (t ty e : TypeId) (i : TypeInfo) (z : Value) (size bytes : Nat) (ht : P.underlying t = some (.slice e)) (hi : P.info? e = some i) (hz : i.zero = some z)
    (hsize : i.size = size) (hby : i.bytes = bytes) (hzs : z.cells.size = size) (hsz : 0 < size)
    (v : Value) (n : Nat) (xs : List Value) (hown : w.ownsRow base e size v n xs)
    (a : Addr) (m c : Nat) (news : List Value) (hl : news.length = m * size) (hnews : ∀ j u, news[j]? = some u → w.cell? (a.add j) = some u) (h1 : ∀ u ∈ news, u.oneCell' = true)
    (h63 : n + m ≤ maxLen) (hbytes : (n + m) * bytes ≤ 140737488355328) (hbase : base ≤ w.heap.size) :
    ∃ v' w', (Builtin.append_ #[t, t] ty #[v, .slice (some a) m c]).run P w = .ok v' w' ∧ w'.ownsRow base e size v' (n + m) (xs ++ news) ∧ w.grownBy w' v.ownBlock ∧ (∀ g, v'.ownBlock = some g → v.ownBlock = some g ∨ g = w.heap.size) := by
  obtain ⟨v', w', hr, h2, h3, h4⟩ := run_append_own (P := P) w base t ty e i z size bytes ht hi hz hsize hby hzs hsz v n xs hown a m c news hl hnews h1 h63 hbytes hbase
  refine ⟨v', w', hr, h2, h3, ?_⟩
  have hsmall : n + m ≤ 9223372036854775807 := by unfold maxLen at h63; omega
  rcases hown.2 with ⟨rfl, rfl⟩ | ⟨g, cap, cur, rfl, hbg, hg, hnc, hcm, hcs, htake⟩
  · by_cases hm : m = 0
    · rw [h4.2 ⟨rfl, hm⟩]
      intro g hg
      cases hg
    · have hn := run_append_nil (P := P) w t ty e i z ht hi hz a m c news (by rw [hl, hsize]) hnews (by omega) (by omega) (by rw [hby]; have hb := hbytes; simp only [Nat.zero_add] at hb; omega)
      rw [hr] at hn
      cases hn
      intro g hg
      cases hg
      exact .inr rfl
  · by_cases hroom : n + m ≤ cap
    · have hfit : n * i.size + news.length ≤ cur.size := by rw [hl, hcs, hsize, ← Nat.add_mul]; exact Nat.mul_le_mul_right _ hroom
      have hn := run_append_room (P := P) w t ty e i ht hi g n cap cur hg a m c news (by rw [hl, hsize]) hnews h1 hroom hfit
      rw [hr] at hn
      cases hn
      intro g' hg'
      exact .inl hg'
    · have holds : ∀ j u, xs[j]? = some u → w.cell? ((⟨g, 0, none⟩ : Addr).add j) = some u := hown.cells (g := g) rfl
      have hn := run_append_grow (P := P) w t ty e i z ht hi hz ⟨g, 0, none⟩ n cap xs (by rw [hown.1, hsize]) holds a m c news (by rw [hl, hsize]) hnews (by omega) (by omega) (growslice_fits (by omega) (by rw [hby]; exact hbytes))
      rw [hr] at hn
      cases hn
      intro g' hg'
      cases hg'
      exact .inr rfl
theorem wpList_append_where {P : Program} (w : World) {ops : Array Oper} {rest : List Oper} {o : Oper} {a : Act} {Q : Exit → Act → World → Prop} (hgd : o.guard = none) (s x : Operand) (t : TypeId)
    (ho : o.op = .call { callee := .builtin .append, args := #[s, x], argTypes := #[t, t] })
    (base : Nat) (e : TypeId) (i : TypeInfo) (z : Value) (size bytes : Nat) (ht : P.underlying t = some (.slice e)) (hi : P.info? e = some i) (hz : i.zero = some z)
    (hsize : i.size = size) (hby : i.bytes = bytes) (hzs : z.cells.size = size) (hsz : 0 < size)
    (v : Value) (n : Nat) (xs : List Value) (hs : a.eval s = v) (hown : w.ownsRow base e size v n xs)
    (ad : Addr) (m c : Nat) (news : List Value) (hx : a.eval x = .slice (some ad) m c) (hl : news.length = m * size) (hnews : ∀ j u, news[j]? = some u → w.cell? (ad.add j) = some u) (h1 : ∀ u ∈ news, u.oneCell' = true)
    (h63 : n + m ≤ maxLen) (hbytes : (n + m) * bytes ≤ 140737488355328) (hbase : base ≤ w.heap.size)
    (h : ∀ v' w', w'.ownsRow base e size v' (n + m) (xs ++ news) → w.grownBy w' v.ownBlock → (∀ g, v'.ownBlock = some g → v.ownBlock = some g ∨ g = w.heap.size) → wpList P ops Q rest (a.put o.dst v') w') : wpList P ops Q (o :: rest) a w :=
  wpList_plain hgd fun K hK => by
    obtain ⟨v', w', hr, h2, h3, h4⟩ := run_append_where (P := P) w base t o.type e i z size bytes ht hi hz hsize hby hzs hsz v n xs hown ad m c news hl hnews h1 h63 hbytes hbase
    unfold Oper.wp execOp
    simp only [ho, resolve, invoke, builtin, Sem.run_bind, Sem.run_pure, Result.andThen_ok, List.map_toArray, List.map_cons, List.map_nil, hs, hx, hr]
    exact hK _ _ (h v' w' h2 h3 h4)
section
variable {α : Type} (enc : α → List Value) (k : Nat)
/-- The elements as cells, one behind the other. -/
def fl (l : List α) : List Value := l.flatMap enc
theorem fl_cons (a : α) (l : List α) : fl enc (a :: l) = enc a ++ fl enc l := by unfold fl; rw [List.flatMap_cons]
theorem fl_app (l m : List α) : fl enc (l ++ m) = fl enc l ++ fl enc m := by unfold fl; rw [List.flatMap_append]
theorem fl_one (a : α) : fl enc [a] = enc a := by rw [fl_cons]; show enc a ++ [] = _; rw [List.append_nil]
variable {enc} {k}
theorem fl_len (hk : ∀ a, (enc a).length = k) (l : List α) : (fl enc l).length = l.length * k := by
  induction l with
  | nil => show 0 = _; simp
  | cons a r ih => rw [fl_cons, List.length_append, hk, ih, List.length_cons, Nat.add_mul]; omega
theorem fl_at (hk : ∀ a, (enc a).length = k) {l : List α} {i : Nat} {a : α} (h : l[i]? = some a) (j : Nat) (hj : j < k) : (fl enc l)[i * k + j]? = (enc a)[j]? := by
  induction l generalizing i with
  | nil => simp at h
  | cons b r ih =>
    rw [fl_cons]
    cases i with
    | zero =>
      simp at h; subst h
      rw [Nat.zero_mul, Nat.zero_add, List.getElem?_append_left (by rw [hk]; exact hj)]
    | succ i =>
      simp at h
      rw [List.getElem?_append_right (by rw [hk, Nat.add_mul]; omega), hk, ← ih h]
      congr 1
      rw [Nat.add_mul]; omega
theorem fl_take (hk : ∀ a, (enc a).length = k) (l : List α) (n : Nat) : (fl enc l).take (n * k) = fl enc (l.take n) := by
  induction l generalizing n with
  | nil => simp [fl]
  | cons a r ih =>
    cases n with
    | zero => simp [fl]
    | succ n =>
      rw [fl_cons, List.take_succ_cons, fl_cons, List.take_append, hk]
      rw [List.take_of_length_le (by rw [hk, Nat.add_mul]; omega), show (n + 1) * k - k = n * k by rw [Nat.add_mul]; omega, ih]

/-- The value is a slice of the call's own with these elements. -/
def OwnG (enc : α → List Value) (T : TypeId) (k : Nat) (w : World) (base : Nat) (v : Value) (l : List α) : Prop := w.ownsRow base T k v l.length (fl enc l)
/-- The value is a slice that reads as these elements. -/
def LstG (enc : α → List Value) (w : World) (v : Value) (l : List α) : Prop := ∃ A c, v = .slice A l.length c ∧ l.length ≤ c ∧ (A = none → c = 0) ∧ (0 < l.length → ∃ b o, A = some ⟨b, o, none⟩ ∧ b < w.heap.size ∧ ∀ (j : Nat) x, (fl enc l)[j]? = some x → w.cell? ⟨b, o + j, none⟩ = some x)
variable {T : TypeId}
theorem OwnG.nil (enc : α → List Value) (T : TypeId) (k : Nat) (w : World) (base : Nat) : OwnG enc T k w base (.slice none 0 0) [] := World.ownsRow_nil _ _ _ _
theorem LstG.nil (enc : α → List Value) (w : World) : LstG enc w (.slice none 0 0) [] := ⟨none, 0, rfl, Nat.le_refl _, fun _ => rfl, fun h => absurd h (Nat.lt_irrefl _)⟩
theorem ownK_shape {w : World} {base : Nat} {v : Value} {n : Nat} {xs : List Value} (h : w.ownsRow base T k v n xs) : ∃ A c, v = .slice A n c ∧ n ≤ c ∧ (A = none → c = 0) ∧ (0 < n → ∃ g, A = some ⟨g, 0, none⟩ ∧ base ≤ g ∧ g < w.heap.size ∧ ∀ j u, xs[j]? = some u → w.cell? ⟨g, 0 + j, none⟩ = some u) := by
  rcases h.2 with ⟨rfl, rfl⟩ | ⟨g, cap, cur, rfl, hb, hg, hn, _, _, ht⟩
  · exact ⟨none, 0, rfl, Nat.le_refl _, fun _ => rfl, fun h => absurd h (Nat.lt_irrefl _)⟩
  · refine ⟨some ⟨g, 0, none⟩, cap, rfl, hn, (fun h => by cases h), fun _ => ⟨g, rfl, hb, ?_, ?_⟩⟩
    · rcases Nat.lt_or_ge g w.heap.size with h | h
      · exact h
      · rw [Array.getElem?_eq_none h] at hg; cases hg
    · intro j u hu
      rw [Nat.zero_add, cell_of_row w g j cur T (0, 0) hg]
      rw [← ht, List.getElem?_take] at hu
      split at hu
      · rw [← hu]; simp
      · cases hu
theorem OwnG.lst {w : World} {base : Nat} {v : Value} {l : List α} (h : OwnG enc T k w base v l) : LstG enc w v l := by
  obtain ⟨A, c, hv, hc, hn, hx⟩ := ownK_shape h
  refine ⟨A, c, hv, hc, hn, fun h0 => ?_⟩
  obtain ⟨g, hA, _, hg, hcell⟩ := hx h0
  exact ⟨g, 0, hA, hg, hcell⟩
theorem OwnG.len {w : World} {base : Nat} {v : Value} {l : List α} (h : OwnG enc T k w base v l) : l.length ≤ 9223372036854775807 := by
  rcases h.2 with ⟨_, h0⟩ | ⟨g, cap, cur, _, _, _, hn, hm, _⟩
  · omega
  · unfold maxLen at hm
    omega
theorem LstG.below {w w' : World} {v : Value} {l : List α} (h : LstG enc w v l) (hb : Below w.heap.size w w') : LstG enc w' v l := by
  obtain ⟨A, c, hv, hc, hn, hx⟩ := h
  refine ⟨A, c, hv, hc, hn, fun h0 => ?_⟩
  obtain ⟨b, o, hA, hbl, hcell⟩ := hx h0
  exact ⟨b, o, hA, Nat.lt_of_lt_of_le hbl hb.size, fun j x hj => (hb.cell (p := ⟨b, o + j, none⟩) hbl).trans (hcell j x hj)⟩
theorem ownK_below {w w' : World} {base : Nat} {v : Value} {n : Nat} {xs : List Value} (h : w.ownsRow base T k v n xs) (hb : Below w.heap.size w w') : w'.ownsRow base T k v n xs := by
  refine ⟨h.1, ?_⟩
  rcases h.2 with h0 | ⟨g, cap, cur, hv, hbg, hg, hr⟩
  · exact Or.inl h0
  · have hlt : g < w.heap.size := by
      rcases Nat.lt_or_ge g w.heap.size with h | h
      · exact h
      · rw [Array.getElem?_eq_none h] at hg; cases hg
    exact Or.inr ⟨g, cap, cur, hv, hbg, (hb.block g hlt).trans hg, hr⟩
theorem ownK_keep {w w' : World} {base : Nat} {v : Value} {n : Nat} {xs : List Value} (h : w.ownsRow base T k v n xs) (hk : ∀ j, base ≤ j → j < w.heap.size → w'.heap[j]? = w.heap[j]?) : w'.ownsRow base T k v n xs := by
  refine ⟨h.1, ?_⟩
  rcases h.2 with h0 | ⟨g, cap, cur, hv, hbg, hg, hr⟩
  · exact Or.inl h0
  · have hlt : g < w.heap.size := by
      rcases Nat.lt_or_ge g w.heap.size with h | h
      · exact h
      · rw [Array.getElem?_eq_none h] at hg; cases hg
    exact Or.inr ⟨g, cap, cur, hv, hbg, (hk g hbg hlt).trans hg, hr⟩
theorem OwnG.below {w w' : World} {base : Nat} {v : Value} {l : List α} (h : OwnG enc T k w base v l) (hb : Below w.heap.size w w') : OwnG enc T k w' base v l := ownK_below h hb
theorem OwnG.keep {w w' : World} {base : Nat} {v : Value} {l : List α} (h : OwnG enc T k w base v l) (hk : ∀ j, base ≤ j → j < w.heap.size → w'.heap[j]? = w.heap[j]?) : OwnG enc T k w' base v l := ownK_keep h hk
theorem OwnG.down {w : World} {base base' : Nat} {v : Value} {l : List α} (h : OwnG enc T k w base v l) (hb : base' ≤ base) : OwnG enc T k w base' v l := by
  refine ⟨h.1, ?_⟩
  rcases h.2 with h0 | ⟨g, cap, cur, hv, hbg, hr⟩
  · exact Or.inl h0
  · exact Or.inr ⟨g, cap, cur, hv, Nat.le_trans hb hbg, hr⟩
theorem OwnG.low {w : World} {base : Nat} {v : Value} {l : List α} (h : OwnG enc T k w base v l) : v = .slice none 0 0 ∧ l = [] ∨ ∃ g c, v = .slice (some ⟨g, 0, none⟩) l.length c ∧ base ≤ g ∧ g < w.heap.size ∧ l.length ≤ c := by
  rcases h.2 with ⟨h0, h1⟩ | ⟨g, cap, cur, hv, hbg, hg, hn, _⟩
  · exact .inl ⟨h0, List.length_eq_zero_iff.1 h1⟩
  · refine .inr ⟨g, cap, hv, hbg, ?_, hn⟩
    rcases Nat.lt_or_ge g w.heap.size with h | h
    · exact h
    · rw [Array.getElem?_eq_none h] at hg; cases hg
/-- The part l[:n] of what is owned. -/
theorem OwnG.part (hk : ∀ a, (enc a).length = k) {w : World} {base g c N : Nat} {l : List α} (hN : l.length = N) (h : OwnG enc T k w base (.slice (some ⟨g, 0, none⟩) N c) l) (n : Nat) (hn : n ≤ N) : OwnG enc T k w base (.slice (some ⟨g, 0, none⟩) n c) (l.take n) := by
  subst hN
  have hl : (l.take n).length = n := by rw [List.length_take]; omega
  refine ⟨by rw [fl_len hk], ?_⟩
  rcases h.2 with ⟨h0, _⟩ | ⟨g', cap, cur, hv, hbg, hg, hn', hm, hs, ht⟩
  · simp at h0
  · simp at hv
    obtain ⟨rfl, rfl⟩ := hv
    refine .inr ⟨g, c, cur, by rw [hl], hbg, hg, by rw [hl]; omega, hm, hs, ?_⟩
    rw [hl, ← fl_take hk, ← ht, List.take_take]
    congr 1
    exact (Nat.min_eq_left (Nat.mul_le_mul_right _ hn)).symm
theorem ownK_grown {w w' : World} {base : Nat} {v : Value} {n : Nat} {xs : List Value} (h : w.ownsRow base T k v n xs) (hg : w.grownBy w' v.ownBlock) (hb : base ≤ w.heap.size) : Below base w w' :=
  (Below.refl _ _).grown hg hb fun j hj => (h.lt j hj).1

/-- A row of literals. -/
theorem lstG_lit (w : World) (cs : Array Value) (T : TypeId) (ls : List α) (h : cs.toList = fl enc ls) (n : Nat) (hn : ls.length = n) : LstG enc (w.alloc (.cells cs T (0, 0))) (.slice (some ⟨w.heap.size, 0, none⟩) n n) ls := by
  subst hn
  refine ⟨_, _, rfl, Nat.le_refl _, fun h => absurd h (by simp), fun _ => ⟨w.heap.size, 0, rfl, by simp, fun j x hj => ?_⟩⟩
  rw [Nat.zero_add, cell_of_row _ _ j _ _ _ (heap_alloc_new _ _), ← hj, ← h]
  simp
/-- Appending one element. -/
theorem appG_one (hk : ∀ a, (enc a).length = k) (hone : ∀ a, ∀ u ∈ enc a, u.oneCell' = true) (k0 : 0 < k) {ST : TypeId} {z : Value} {bytes : Nat} (hu : Tryz.prog.underlying ST = some (.slice T)) (hinfo : (Tryz.prog.info? T).map (fun i => (i.zero, i.size, i.bytes)) = some (some z, k, bytes)) (hz0 : z.cells.size = k) (hb64 : bytes ≤ 64)
    (w : World) {ops : Array Oper} {rest : List Oper} {o : Oper} {a : Act} {Q : Exit → Act → World → Prop} (hgd : o.guard = none) (s x : Operand)
    (ho : o.op = .call { callee := .builtin .append, args := #[s, x], argTypes := #[ST, ST] }) (base : Nat) (v : Value) (l : List α) (m : α) (hs : a.eval s = v) (hown : OwnG enc T k w base v l)
    (b : Nat) (cells : Array Value) (hbk : w.heap[b]? = some (.cells cells T (0, 0))) (hc : cells.toList = enc m) (hx : a.eval x = .slice (some ⟨b, 0, none⟩) 1 1) (hb : base ≤ w.heap.size)
    (hl : l.length + 1 ≤ 1099511627776) (h : ∀ v' w', OwnG enc T k w' base v' (l ++ [m]) → Below base w w' → w.grownBy w' v.ownBlock → (∀ g, v'.ownBlock = some g → v.ownBlock = some g ∨ g = w.heap.size) → wpList Tryz.prog ops Q rest (a.put o.dst v') w') : wpList Tryz.prog ops Q (o :: rest) a w := by
  obtain ⟨i, hi, hz, hsz, hby⟩ := info_parts hinfo
  refine wpList_append_where w hgd s x ST ho base T i z k bytes hu hi hz hsz hby hz0 k0 v l.length (fl enc l) hs hown ⟨b, 0, none⟩ 1 1 (enc m) hx (by rw [hk, Nat.one_mul]) ?_ (hone m) (by unfold maxLen; omega) (Nat.le_trans (Nat.mul_le_mul_left _ hb64) (by omega)) hb ?_
  · intro j u hu
    have hadd : (⟨b, 0, none⟩ : Addr).add j = ⟨b, j, none⟩ := by unfold Addr.add; split <;> simp_all
    rw [hadd, cell_of_row w b j cells _ _ hbk, ← hu, ← hc]
    simp
  · intro v' w' h1 h2 h3
    refine h v' w' ?_ (ownK_grown hown h2 hb) h2 h3
    unfold OwnG
    rw [List.length_append, fl_app, fl_one]
    exact h1
/-- The same as a step of a region that draws its order. -/
theorem stepG_one (hk : ∀ a, (enc a).length = k) (hone : ∀ a, ∀ u ∈ enc a, u.oneCell' = true) (k0 : 0 < k) {ST : TypeId} {z : Value} {bytes : Nat} (hu : Tryz.prog.underlying ST = some (.slice T)) (hinfo : (Tryz.prog.info? T).map (fun i => (i.zero, i.size, i.bytes)) = some (some z, k, bytes)) (hz0 : z.cells.size = k) (hb64 : bytes ≤ 64)
    (w : World) {ops : Array Oper} {o : Oper} {a : Act} {K : Act → World → Prop} {Q : Exit → Act → World → Prop} {E : Prop} (hgd : o.guard = none) (s x : Operand)
    (ho : o.op = .call { callee := .builtin .append, args := #[s, x], argTypes := #[ST, ST] }) (base : Nat) (v : Value) (l : List α) (m : α) (hs : a.eval s = v) (hown : OwnG enc T k w base v l)
    (b : Nat) (cells : Array Value) (hbk : w.heap[b]? = some (.cells cells T (0, 0))) (hc : cells.toList = enc m) (hx : a.eval x = .slice (some ⟨b, 0, none⟩) 1 1) (hb : base ≤ w.heap.size)
    (hl : l.length + 1 ≤ 1099511627776) (h : ∀ v' w', OwnG enc T k w' base v' (l ++ [m]) → Below base w w' → w.grownBy w' v.ownBlock → K (a.put o.dst v') w') : if Region.wanted o (yielded ops a.tmps) = true then Oper.wp Tryz.prog o a w K Q else E := by
  obtain ⟨i, hi, hz, hsz, hby⟩ := info_parts hinfo
  have hw : Region.wanted o (yielded ops a.tmps) = true := by simp [Region.wanted, hgd]
  rw [if_pos hw]
  refine wp_append_own w s x ST ho base T i z k bytes hu hi hz hsz hby hz0 k0 v l.length (fl enc l) hs hown ⟨b, 0, none⟩ 1 1 (enc m) hx (by rw [hk, Nat.one_mul]) ?_ (hone m) (by unfold maxLen; omega) (Nat.le_trans (Nat.mul_le_mul_left _ hb64) (by omega)) hb ?_
  · intro j u hu
    have hadd : (⟨b, 0, none⟩ : Addr).add j = ⟨b, j, none⟩ := by unfold Addr.add; split <;> simp_all
    rw [hadd, cell_of_row w b j cells _ _ hbk, ← hu, ← hc]
    simp
  · intro v' w' h1 h2 _
    refine h v' w' ?_ (ownK_grown hown h2 hb) h2
    unfold OwnG
    rw [List.length_append, fl_app, fl_one]
    exact h1
/-- Appending a slice, a nil one too. -/
theorem appG_list (hk : ∀ a, (enc a).length = k) (hone : ∀ a, ∀ u ∈ enc a, u.oneCell' = true) (k0 : 0 < k) {ST : TypeId} {z : Value} {bytes : Nat} (hu : Tryz.prog.underlying ST = some (.slice T)) (hinfo : (Tryz.prog.info? T).map (fun i => (i.zero, i.size, i.bytes)) = some (some z, k, bytes)) (hz0 : z.cells.size = k) (hb64 : bytes ≤ 64)
    (w : World) {ops : Array Oper} {rest : List Oper} {o : Oper} {a : Act} {Q : Exit → Act → World → Prop} (hgd : o.guard = none) (s x : Operand)
    (ho : o.op = .call { callee := .builtin .append, args := #[s, x], argTypes := #[ST, ST] }) (base : Nat) (v : Value) (l m : List α) (hs : a.eval s = v) (hown : OwnG enc T k w base v l)
    (y : Value) (hx : a.eval x = y) (hy : LstG enc w y m) (hb : base ≤ w.heap.size)
    (hl : l.length + m.length ≤ 1099511627776) (h : ∀ v' w', OwnG enc T k w' base v' (l ++ m) → Below base w w' → w.grownBy w' v.ownBlock → (∀ g, v'.ownBlock = some g → v.ownBlock = some g ∨ g = w.heap.size) → wpList Tryz.prog ops Q rest (a.put o.dst v') w') : wpList Tryz.prog ops Q (o :: rest) a w := by
  obtain ⟨i, hi, hz, hsz, hby⟩ := info_parts hinfo
  obtain ⟨A, c, rfl, hc, hn, hcell⟩ := hy
  cases A with
  | none =>
    obtain rfl := hn rfl
    have h0 : m = [] := List.length_eq_zero_iff.1 (by omega)
    subst h0
    refine wpList_plain hgd fun K hK => ?_
    have hrun := run_append_owned_none (P := Tryz.prog) w base ST o.type T i k hu hi v l.length (fl enc l) hown
    unfold Oper.wp
    simp only [List.length_nil] at hx
    simp [execOp, ho, resolve, invoke, builtin, hs, hx, hrun, Result.andThen]
    exact hK _ _ (h v w (by rw [List.append_nil]; exact hown) (Below.refl _ _) ⟨rfl, rfl, rfl, Nat.le_refl _, fun _ _ _ => rfl⟩ (fun _ hg => .inl hg))
  | some ad =>
    have hcells : ∀ (j : Nat) u, (fl enc m)[j]? = some u → w.cell? (ad.add j) = some u := by
      intro j u hu
      have hj := (List.getElem?_eq_some_iff.1 hu).1
      have h0 : 0 < m.length := by
        rcases Nat.eq_zero_or_pos m.length with h | h
        · rw [fl_len hk, h, Nat.zero_mul] at hj; omega
        · exact h
      obtain ⟨b, f, hA, _, hcc⟩ := hcell h0
      obtain rfl := Option.some.inj hA
      have hadd : (⟨b, f, none⟩ : Addr).add j = ⟨b, f + j, none⟩ := by unfold Addr.add; split <;> simp_all
      rw [hadd]
      exact hcc j u hu
    refine wpList_append_where w hgd s x ST ho base T i z k bytes hu hi hz hsz hby hz0 k0 v l.length (fl enc l) hs hown ad m.length c (fl enc m) hx (fl_len hk m) hcells ?_ (by unfold maxLen; omega) (Nat.le_trans (Nat.mul_le_mul_left _ hb64) (by omega)) hb ?_
    · intro u hu
      unfold fl at hu
      obtain ⟨a, _, ha⟩ := List.mem_flatMap.1 hu
      exact hone a u ha
    · intro v' w' h1 h2 h3
      refine h v' w' ?_ (ownK_grown hown h2 hb) h2 h3
      unfold OwnG
      rw [List.length_append, fl_app]
      exact h1
end
end Go.Proofs.YtkhalnjgbdpfhaaGreat
namespace Go.Proofs.YtkhalnjgbdpfhaaGreat
open Go.RowKit

theorem int_top {n : Int} (h : (Lit.int .i64 n).wf = true) : n ≤ 9223372036854775807 := by
  unfold Lit.wf at h
  rw [Bool.and_eq_true, decide_eq_true_eq, decide_eq_true_eq] at h
  exact h.2
theorem int_low {n : Int} (h : (Lit.int .i64 n).wf = true) : -9223372036854775808 ≤ n := by
  unfold Lit.wf at h
  rw [Bool.and_eq_true, decide_eq_true_eq, decide_eq_true_eq] at h
  exact h.1
theorem u64_low {n : Int} (h : (Lit.int .u64 n).wf = true) : 0 ≤ n := by
  unfold Lit.wf at h
  rw [Bool.and_eq_true, decide_eq_true_eq, decide_eq_true_eq] at h
  exact h.1
theorem u64_lt {n : Nat} (h : (Lit.int .u64 (n : Int)).wf = true) : n < 18446744073709551616 := by
  unfold Lit.wf at h
  rw [Bool.and_eq_true, decide_eq_true_eq, decide_eq_true_eq] at h
  have h2 : (n : Int) ≤ 18446744073709551615 := h.2
  omega
open Go.ChangeShapes Go.WideShapes
theorem cells_int : Tryz.prog.cellsOf 3 = 1 := by kernel_rfl
theorem laid_outI : laidOutB Tryz.prog = true := by kernel_rfl
set_option maxRecDepth 100000 in
theorem open_listI {H : Type} {enc : TypeId × Value → H} {W : World} {base : Nat} {v : Value} {d : DataW H} {ps : List MemPlace} (hval : Value.okWide Tryz.prog W .any base 137 v)
    (h : DataW.Trod enc Tryz.prog W 0 (fun _ => true) true 137 v d ps) : ∃ l : List Int, LstI W v l ∧ l.length ≤ 9223372036854775807 ∧ (∀ x ∈ ps, x.block < W.heap.size) ∧ ∀ x ∈ l, -9223372036854775808 ≤ x ∧ x ≤ 9223372036854775807 := by
  have hlt := (trodAll_mk1 h).lt
  obtain ⟨a0, len, cap, rfl⟩ := okWide_slice Tryz.underlying137 hval
  obtain ⟨fuel, hf⟩ := h
  rcases Go.ChangeShapes.open_ints Tryz.underlying137 Tryz.underlying3 cells_int hf with ⟨hcs, _⟩ | ⟨a, len', cap', ss, hcs, _, hl, hm, hz, _, hcell, hwf⟩
  · simp [Value.cells] at hcs
    obtain ⟨rfl, rfl, rfl⟩ := hcs
    exact ⟨[], LstI.nil _, by simp, hlt, fun x hx => absurd hx (by simp)⟩
  · simp [Value.cells] at hcs
    obtain ⟨rfl, rfl, rfl⟩ := hcs
    simp only [if_true] at hz
    have hll : (ss.take len).length = len := by rw [List.length_take]; omega
    refine ⟨ss.take len, ⟨_, _, by rw [hll], by omega, fun h => absurd h (by simp), fun h0 => ?_⟩, by unfold maxLen at hm; omega, hlt, fun x hx => ⟨int_low (hwf x (List.mem_of_mem_take hx)), int_top (hwf x (List.mem_of_mem_take hx))⟩⟩
    rw [hll] at h0
    obtain ⟨b, off, spot⟩ := a
    have h00 := hcell 0 (by omega)
    have hspot : spot = none := by simpa [Addr.add] using World.cell?_spot h00
    subst hspot
    refine ⟨b, off, rfl, ?_, fun j x hj => ?_⟩
    · exact World.block_lt_of_cell? _ _ h00
    · have hjl : j < len := by
        have := (List.getElem?_eq_some_iff.1 hj).1
        rw [List.length_map, hll] at this
        exact this
      have hc := hcell j (by omega)
      have hadd : (⟨b, off, none⟩ : Addr).add j = ⟨b, off + j, none⟩ := by unfold Addr.add; split <;> simp_all
      rw [hadd] at hc
      rw [hc, ← hj]
      unfold ints
      rw [List.getElem?_map, List.getElem?_take, if_pos hjl, List.getElem?_eq_getElem (by omega)]
      simp [List.getD, List.getElem?_eq_getElem (show j < ss.length by omega)]
end Go.Proofs.YtkhalnjgbdpfhaaGreat
namespace Go.Proofs.YtkhalnjgbdpfhaaGreat
open Go.RowKit Go.ChangeShapes Go.WideShapes Go.Deep

set_option maxRecDepth 100000 in
theorem open_listG {α : Type} [Inhabited α] {enc' : α → List Value} {ok : α → Prop} {k : Nat} {ST T : TypeId} (k0 : 0 < k) (hk : ∀ a, (enc' a).length = k) (hu : Tryz.prog.underlying ST = some (.slice T)) (hC : Tryz.prog.cellsOf T = k)
    {H : Type} {enc : TypeId × Value → H} {W : World} {base : Nat} {v : Value} {d : DataW H} {ps : List MemPlace}
    (he : ∀ n cs x, DataW.trod enc Tryz.prog W 0 (fun _ => true) true n T cs = some x → ∃ a : α, ok a ∧ cs = enc' a)
    (hval : Value.okWide Tryz.prog W .any base ST v) (h : DataW.Trod enc Tryz.prog W 0 (fun _ => true) true ST v d ps) : ∃ l : List α, LstG enc' W v l ∧ l.length ≤ 9223372036854775807 ∧ (∀ x ∈ ps, x.block < W.heap.size) ∧ ∀ a ∈ l, ok a := by
  have hlt := (trodAll_mk1 h).lt
  obtain ⟨a0, len, cap, rfl⟩ := okWide_slice hu hval
  obtain ⟨fuel, hf⟩ := h
  rcases open_slice hu hf with ⟨hcs, _⟩ | ⟨a, len', cap', m, n, D, Pl, hcs, _, hl, hm, hmm, _, hcell⟩
  · simp [Value.cells] at hcs
    obtain ⟨rfl, rfl, rfl⟩ := hcs
    exact ⟨[], LstG.nil _ _, by simp, hlt, fun x hx => absurd hx (by simp)⟩
  · simp [Value.cells] at hcs
    obtain ⟨rfl, rfl, rfl⟩ := hcs
    simp only [if_true] at hmm
    rw [hC] at hcell
    have each : ∀ i, i < len → ∃ q : α, ok q ∧ ∀ j x, (enc' q)[j]? = some x → W.cell? (a.add (i * k + j)) = some x := by
      intro i hi
      obtain ⟨cs', h1, h2⟩ := hcell i (by omega)
      obtain ⟨q, hq, rfl⟩ := he _ _ _ h2
      obtain ⟨_, hcl, hat⟩ := World.cells?_some h1
      refine ⟨q, hq, fun j x hj => ?_⟩
      have hjl := (List.getElem?_eq_some_iff.1 hj).1
      rw [hk] at hjl
      rw [← Go.Deep.add_add, hat j hjl, hj]
    let f : Nat → α := fun i => if hi : i < len then Classical.choose (each i hi) else default
    have hfi : ∀ i (hi : i < len), ok (f i) ∧ ∀ j x, (enc' (f i))[j]? = some x → W.cell? (a.add (i * k + j)) = some x := by
      intro i hi
      show ok (if hi : i < len then _ else _) ∧ _
      simp only [f, dif_pos hi]
      exact Classical.choose_spec (each i hi)
    have hll : ((List.range len).map f).length = len := by simp
    have hat : ∀ i, i < len → ((List.range len).map f)[i]? = some (f i) := fun i hi => by simp [hi]
    refine ⟨(List.range len).map f, ⟨some a, cap, by rw [hll], by rw [hll]; exact hl, fun h => absurd h (by simp), fun h0 => ?_⟩, by rw [hll]; unfold maxLen at hm; omega, hlt, fun q hq => ?_⟩
    · rw [hll] at h0
      obtain ⟨b, off, spot⟩ := a
      have hx0 : ∃ x, (enc' (f 0))[0]? = some x := ⟨_, List.getElem?_eq_getElem (by rw [hk]; exact k0)⟩
      obtain ⟨x0, hx0⟩ := hx0
      have h00 := (hfi 0 h0).2 0 x0 hx0
      have hspot : spot = none := by simpa [Addr.add] using World.cell?_spot h00
      subst hspot
      have hadd : ∀ j, (⟨b, off, none⟩ : Addr).add j = ⟨b, off + j, none⟩ := fun j => by unfold Addr.add; split <;> simp_all
      refine ⟨b, off, rfl, ?_, fun j x hj => ?_⟩
      · rw [hadd] at h00
        exact World.block_lt_of_cell? _ _ h00
      · have hjl := (List.getElem?_eq_some_iff.1 hj).1
        rw [fl_len hk, hll] at hjl
        have hi : j / k < len := Nat.div_lt_of_lt_mul (by rw [Nat.mul_comm]; exact hjl)
        have hjk : j / k * k + j % k = j := by rw [Nat.mul_comm]; exact Nat.div_add_mod j k
        have h2 := fl_at hk (hat _ hi) (j % k) (Nat.mod_lt _ k0)
        rw [hjk, hj] at h2
        have := (hfi _ hi).2 (j % k) x h2.symm
        rw [hjk, hadd] at this
        exact this
    · obtain ⟨i, hi, rfl⟩ := List.mem_map.1 hq
      exact (hfi i (List.mem_range.1 hi)).1
end Go.Proofs.YtkhalnjgbdpfhaaGreat
namespace Go.Proofs.YtkhalnjgbdpfhaaGreat
open Go.RowKit

section
variable {α : Type} {enc : α → List Value} {k : Nat}
theorem fl_drop (hk : ∀ a, (enc a).length = k) (l : List α) (n : Nat) : (fl enc l).drop (n * k) = fl enc (l.drop n) := by
  induction l generalizing n with
  | nil => simp [fl]
  | cons a r ih =>
    cases n with
    | zero => simp
    | succ n =>
      rw [fl_cons, List.drop_succ_cons, ← ih, List.drop_append, List.drop_of_length_le (by rw [hk, Nat.add_mul]; omega), hk, show (n + 1) * k - k = n * k by rw [Nat.add_mul]; omega]
      rfl
theorem LstG.part (hk : ∀ a, (enc a).length = k) {w : World} {A : Option Addr} {c : Nat} {l : List α} (h : LstG enc w (.slice A l.length c) l) (i j m : Nat) (hi : i ≤ j) (hj : j ≤ l.length) (hm : j ≤ m) (hmc : m ≤ c) :
    LstG enc w (sliced A i j m k) ((l.drop i).take (j - i)) := by
  obtain ⟨A', c', hv, hc, hn, hx⟩ := h
  cases hv
  have hl : ((l.drop i).take (j - i)).length = j - i := by rw [List.length_take, List.length_drop]; omega
  refine ⟨if m = i then A else A.map (·.add (i * k)), m - i, by unfold sliced; rw [hl], by omega, fun h0 => ?_, fun h0 => ?_⟩
  · by_cases e : m = i
    · omega
    · rw [if_neg e] at h0
      cases A with
      | none => have := hn rfl; omega
      | some a => cases h0
  · rw [hl] at h0
    obtain ⟨b, o, rfl, hb, hcell⟩ := hx (by omega)
    have hadd : (⟨b, o, none⟩ : Addr).add (i * k) = ⟨b, o + i * k, none⟩ := by unfold Addr.add; split <;> simp_all
    refine ⟨b, o + i * k, by rw [if_neg (by omega)]; simp only [Option.map_some, hadd], hb, fun t x ht => ?_⟩
    rw [← fl_take hk, ← fl_drop hk, List.getElem?_take] at ht
    split at ht
    · rw [List.getElem?_drop] at ht
      rw [Nat.add_assoc]
      exact hcell _ x ht
    · cases ht
theorem run_append_full {P : Program} (w : World) (base : Nat) (t ty e : TypeId) (i : TypeInfo) (z : Value) (size bytes : Nat) (ht : P.underlying t = some (.slice e)) (hi : P.info? e = some i) (hz : i.zero = some z)
    (hsize : i.size = size) (hby : i.bytes = bytes) (hzs : z.cells.size = size)
    (b : Addr) (n : Nat) (xs : List Value) (hxs : xs.length = n * size) (hcs : ∀ j u, xs[j]? = some u → w.cell? (b.add j) = some u)
    (a : Addr) (m c : Nat) (news : List Value) (hl : news.length = m * size) (hnews : ∀ j u, news[j]? = some u → w.cell? (a.add j) = some u) (hm : 0 < m)
    (h63 : n + m ≤ maxLen) (hbytes : (n + m) * bytes ≤ 140737488355328) (hbase : base ≤ w.heap.size) :
    ∃ v' w', (Builtin.append_ #[t, t] ty #[.slice (some b) n n, .slice (some a) m c]).run P w = .ok v' w' ∧ w'.ownsRow base e size v' (n + m) (xs ++ news) ∧ w.grownBy w' none := by
  subst hsize
  subst hby
  have hsmall : n + m ≤ 9223372036854775807 := by unfold maxLen at h63; omega
  have hlen : (xs ++ news).length = (n + m) * i.size := by rw [List.length_append, hxs, hl, Nat.add_mul]
  have hn := run_append_grow (P := P) w t ty e i z ht hi hz b n n xs hxs hcs a m c news hl hnews (by omega) (by omega) (growslice_fits (by omega) hbytes)
  have hge := grownCap_ge w (n + m) n e
  have hcm : grownCap w (n + m) n e ≤ maxLen := grownCap_le_maxLen w (n + m) n e h63
  refine ⟨_, _, hn, ⟨hlen, .inr ⟨w.heap.size, _, _, rfl, hbase, heap_alloc_new w.drew _, hge, hcm, ?_, ?_⟩⟩, ⟨rfl, rfl, rfl, by simp, fun k hk _ => Go.heap_alloc_old w.drew _ hk⟩⟩
  · simp only [Array.size_append, List.size_toArray, size_zeroCells, hzs, hxs, hl, ← Nat.add_mul]
    congr 1
    omega
  · rw [← hlen, Array.toList_append, Array.toList_append]
    exact List.take_left' rfl
variable {T : TypeId}
theorem LstG.reads {w : World} {b : Addr} {n c : Nat} {l : List α} (h : LstG enc w (.slice (some b) n c) l) : ∀ (j : Nat) u, (fl enc l)[j]? = some u → w.cell? (b.add j) = some u := by
  intro j u hu
  obtain ⟨A, c', hv, _, _, hx⟩ := h
  cases hv
  have h0 : 0 < l.length := by
    rcases Nat.eq_zero_or_pos l.length with h | h
    · rw [List.length_eq_zero_iff.1 h] at hu
      simp [fl] at hu
    · exact h
  obtain ⟨g, o, hA, _, hc⟩ := hx h0
  cases hA
  have hadd : (⟨g, o, none⟩ : Addr).add j = ⟨g, o + j, none⟩ := by unfold Addr.add; split <;> simp_all
  rw [hadd]
  exact hc j u hu
/-- Appending one element to a slice that has no room, or to nil: as a step of a region that draws its order. -/
theorem stepG_cut (hk : ∀ a, (enc a).length = k) (hone : ∀ a, ∀ u ∈ enc a, u.oneCell' = true) (k0 : 0 < k) {ST : TypeId} {z : Value} {bytes : Nat} (hu : Tryz.prog.underlying ST = some (.slice T)) (hinfo : (Tryz.prog.info? T).map (fun i => (i.zero, i.size, i.bytes)) = some (some z, k, bytes)) (hz0 : z.cells.size = k) (hb64 : bytes ≤ 64)
    (w : World) {ops : Array Oper} {o : Oper} {a : Act} {K : Act → World → Prop} {Q : Exit → Act → World → Prop} {E : Prop} (hgd : o.guard = none) (s x : Operand)
    (ho : o.op = .call { callee := .builtin .append, args := #[s, x], argTypes := #[ST, ST] }) (base : Nat) (A : Option Addr) (n : Nat) (l : List α) (m : α) (hs : a.eval s = .slice A n n) (hlst : LstG enc w (.slice A n n) l)
    (b : Nat) (cells : Array Value) (hbk : w.heap[b]? = some (.cells cells T (0, 0))) (hc : cells.toList = enc m) (hx : a.eval x = .slice (some ⟨b, 0, none⟩) 1 1) (hb : base ≤ w.heap.size)
    (hl : l.length + 1 ≤ 1099511627776) (h : ∀ v' w', OwnG enc T k w' base v' (l ++ [m]) → Below w.heap.size w w' → K (a.put o.dst v') w') : if Region.wanted o (yielded ops a.tmps) = true then Oper.wp Tryz.prog o a w K Q else E := by
  obtain ⟨i, hi, hz, hsz, hby⟩ := info_parts hinfo
  have hw : Region.wanted o (yielded ops a.tmps) = true := by simp [Region.wanted, hgd]
  rw [if_pos hw]
  have hnl : n = l.length := by obtain ⟨_, _, hv, _⟩ := hlst; cases hv; rfl
  subst hnl
  have hnews : ∀ (j : Nat) u, (enc m)[j]? = some u → w.cell? ((⟨b, 0, none⟩ : Addr).add j) = some u := by
    intro j u hu
    have hadd : (⟨b, 0, none⟩ : Addr).add j = ⟨b, j, none⟩ := by unfold Addr.add; split <;> simp_all
    rw [hadd, cell_of_row w b j cells _ _ hbk, ← hu, ← hc]
    simp
  have hby2 : (l.length + 1) * bytes ≤ 140737488355328 := Nat.le_trans (Nat.mul_le_mul_left _ hb64) (by omega)
  have key : ∃ v' w', (Builtin.append_ #[ST, ST] o.type #[.slice A l.length l.length, .slice (some ⟨b, 0, none⟩) 1 1]).run Tryz.prog w = .ok v' w' ∧ w'.ownsRow base T k v' (l.length + 1) (fl enc l ++ enc m) ∧ Below w.heap.size w w' := by
    cases A with
    | none =>
      have h0 : l.length = 0 := by obtain ⟨_, c, hv, h1, h2, _⟩ := hlst; cases hv; exact h2 rfl
      obtain rfl := List.length_eq_zero_iff.1 h0
      obtain ⟨v', w', h1, h2, h3, _⟩ := run_append_own (P := Tryz.prog) w base ST o.type T i z k bytes hu hi hz hsz hby hz0 k0 (.slice none 0 0) 0 [] (World.ownsRow_nil _ _ _ _) ⟨b, 0, none⟩ 1 1 (enc m) (by rw [hk, Nat.one_mul]) hnews (hone m) (by unfold maxLen; omega) (by simpa using hby2) hb
      exact ⟨v', w', h1, h2, ⟨h3.os, h3.tape, h3.output, h3.size, fun j hj => h3.block j hj (by simp [Value.ownBlock])⟩⟩
    | some ad =>
      obtain ⟨v', w', h1, h2, h3⟩ := run_append_full (P := Tryz.prog) w base ST o.type T i z k bytes hu hi hz hsz hby hz0 ad l.length (fl enc l) (fl_len hk l) hlst.reads ⟨b, 0, none⟩ 1 1 (enc m) (by rw [hk, Nat.one_mul]) hnews (by omega) (by unfold maxLen; omega) hby2 hb
      exact ⟨v', w', h1, h2, ⟨h3.os, h3.tape, h3.output, h3.size, fun j hj => h3.block j hj (by simp)⟩⟩
  obtain ⟨v', w', hr, h2, h3⟩ := key
  have hK : K (a.put o.dst v') w' := h v' w' (by unfold OwnG; rw [List.length_append, fl_app, fl_one]; exact h2) h3
  unfold Oper.wp execOp
  simp only [ho, resolve, invoke, builtin, Sem.run_bind, Sem.run_pure, Result.andThen_ok, List.map_toArray, List.map_cons, List.map_nil, hs, hx, hr]
  exact hK
end
end Go.Proofs.YtkhalnjgbdpfhaaGreat
namespace Go.Proofs.YtkhalnjgbdpfhaaGreat
open Go.RowKit

/-- Block k holds cells of the type T. -/
def Tag (w : World) (k : Nat) (T : TypeId) : Prop := ∃ cs f, w.heap[k]? = some (.cells cs T f)
/-- Blocks below B, and those of no type of P, are as they were. -/
structure Fr (P : TypeId → Prop) (B : Nat) (w w' : World) : Prop where
  os : w'.os = w.os
  tape : w'.tape = w.tape
  output : w'.output = w.output
  size : w.heap.size ≤ w'.heap.size
  block : ∀ k, k < w.heap.size → (k < B ∨ ∀ T, P T → ¬ Tag w k T) → w'.heap[k]? = w.heap[k]?
variable {P : TypeId → Prop}
theorem Fr.refl (P : TypeId → Prop) (B : Nat) (w : World) : Fr P B w w := ⟨rfl, rfl, rfl, Nat.le_refl _, fun _ _ _ => rfl⟩
theorem Fr.trans {B : Nat} {a b c : World} (h : Fr P B a b) (k : Fr P B b c) : Fr P B a c :=
  ⟨k.os.trans h.os, k.tape.trans h.tape, k.output.trans h.output, Nat.le_trans h.size k.size, fun j hj hc => by
    have e := h.block j hj hc
    refine (k.block j (Nat.lt_of_lt_of_le hj h.size) ?_).trans e
    rcases hc with hc | hc
    · exact .inl hc
    · refine .inr fun T hT ht => hc T hT ?_
      obtain ⟨cs, f, h1⟩ := ht
      exact ⟨cs, f, e ▸ h1⟩⟩
theorem Fr.mono {B B' : Nat} {w w' : World} (h : Fr P B w w') (hb : B' ≤ B) : Fr P B' w w' :=
  ⟨h.os, h.tape, h.output, h.size, fun k hk hc => h.block k hk (hc.imp (fun x => Nat.lt_of_lt_of_le x hb) id)⟩
theorem Below.fr {B : Nat} {w w' : World} (h : Below w.heap.size w w') : Fr P B w w' := ⟨h.os, h.tape, h.output, h.size, fun k hk _ => h.block k hk⟩
theorem Fr.below {B : Nat} {w w' : World} (h : Fr P B w w') (hB : B ≤ w.heap.size) : Below B w w' := ⟨h.os, h.tape, h.output, h.size, fun k hk => h.block k (Nat.lt_of_lt_of_le hk hB) (.inl hk)⟩
theorem Fr.setCell {B : Nat} {a w : World} (h : Fr P B a w) {p : Addr} (hp : B ≤ p.block) {T : TypeId} (hT : P T) (ht : p.block < a.heap.size → Tag a p.block T) (u : Value) : Fr P B a (w.setCell p u) :=
  ⟨h.os, h.tape, h.output, by rw [show (w.setCell p u).heap.size = w.heap.size by simp [World.setCell]]; exact h.size, fun k hk hc => by
    have hne : k ≠ p.block := by
      rintro rfl
      rcases hc with hc | hc
      · omega
      · exact hc T hT (ht hk)
    rw [RowKit.Below.heap_setCell _ _ _ _ hne]
    exact h.block k hk hc⟩
theorem Fr.alloc {B : Nat} {a w : World} (h : Fr P B a w) (o : Obj) : Fr P B a (w.alloc o) :=
  h.trans (Below.fr ((Below.refl _ _).alloc (Nat.le_refl _) _))
theorem Fr.drew {B : Nat} {a w : World} (h : Fr P B a w) : Fr P B a w.drew := ⟨h.os, h.tape, h.output, h.size, h.block⟩
/-- A block of another type. -/
theorem Fr.other {B k : Nat} {w w' : World} (h : Fr P B w w') {cs : Array Value} {T : TypeId} {f : Nat × Nat} (hk : w.heap[k]? = some (.cells cs T f)) (hT : ¬ P T) : w'.heap[k]? = some (.cells cs T f) := by
  have hl : k < w.heap.size := by
    rcases Nat.lt_or_ge k w.heap.size with h | h
    · exact h
    · rw [Array.getElem?_eq_none h] at hk; cases hk
  rw [h.block k hl (.inr fun S hS ⟨cs', f', h1⟩ => ?_), hk]
  rw [hk] at h1
  cases h1
  exact hT hS
theorem OwnG.fr {α : Type} {enc : α → List Value} {k B : Nat} {T : TypeId} {w w' : World} {base : Nat} {v : Value} {l : List α} (h : OwnG enc T k w base v l) (hf : Fr P B w w') (hT : ¬ P T) : OwnG enc T k w' base v l := by
  refine ⟨h.1, ?_⟩
  rcases h.2 with h0 | ⟨g, cap, cur, hv, hbg, hg, hr⟩
  · exact Or.inl h0
  · exact Or.inr ⟨g, cap, cur, hv, hbg, hf.other hg hT, hr⟩
theorem OwnG.tag {α : Type} {enc : α → List Value} {k g n c : Nat} {T : TypeId} {w : World} {base : Nat} {l : List α} (h : OwnG enc T k w base (.slice (some ⟨g, 0, none⟩) n c) l) : Tag w g T := by
  rcases h.2 with ⟨h0, _⟩ | ⟨g', cap, cur, hv, hbg, hg, hr⟩
  · cases h0
  · cases hv
    exact ⟨_, _, hg⟩
theorem OwnG.stay {α : Type} {enc : α → List Value} {k : Nat} {T : TypeId} {w w' : World} {base : Nat} {v : Value} {l : List α} (h : OwnG enc T k w base v l) (hk : ∀ g, Tag w g T → base ≤ g → w'.heap[g]? = w.heap[g]?) : OwnG enc T k w' base v l := by
  refine ⟨h.1, ?_⟩
  rcases h.2 with h0 | ⟨g, cap, cur, hv, hbg, hg, hr⟩
  · exact Or.inl h0
  · exact Or.inr ⟨g, cap, cur, hv, hbg, (hk g ⟨_, _, hg⟩ hbg).trans hg, hr⟩
theorem Tag.uniq {w : World} {k : Nat} {T U : TypeId} (h : Tag w k T) (h' : Tag w k U) : T = U := by
  obtain ⟨_, _, h⟩ := h
  obtain ⟨_, _, h'⟩ := h'
  rw [h] at h'
  cases h'
  rfl
theorem Tag.lt {w : World} {k : Nat} {T : TypeId} (h : Tag w k T) : k < w.heap.size := by
  obtain ⟨_, _, h⟩ := h
  rcases Nat.lt_or_ge k w.heap.size with h' | h'
  · exact h'
  · rw [Array.getElem?_eq_none h'] at h; cases h
/-- The block of a row of the call's own. -/
theorem OwnG.block {α : Type} {enc : α → List Value} {k g : Nat} {T : TypeId} {w : World} {base : Nat} {v : Value} {l : List α} (h : OwnG enc T k w base v l) (hg : v.ownBlock = some g) : Tag w g T := by
  rcases h.2 with ⟨h0, _⟩ | ⟨g', cap, cur, hv, hbg, hg', hr⟩
  · rw [h0] at hg; cases hg
  · rw [hv] at hg; cases hg
    exact ⟨_, _, hg'⟩
theorem Fr.grown {α : Type} {enc : α → List Value} {k B : Nat} {T : TypeId} {a w w' : World} {base : Nat} {v : Value} {l : List α} (h : Fr P B a w) (o : OwnG enc T k w base v l) (hb : B ≤ base) (hT : P T) (hg : w.grownBy w' v.ownBlock) : Fr P B a w' := by
  refine h.trans ⟨hg.os, hg.tape, hg.output, hg.size, fun j hj hc => hg.block j hj fun e => ?_⟩
  rcases hc with hc | hc
  · have := (World.ownsRow.lt o j e.symm).1
    omega
  · exact hc T hT (o.block e.symm)
theorem LstG.fr {α : Type} {enc : α → List Value} {B : Nat} {w w' : World} {v : Value} {l : List α} (h : LstG enc w v l) (hB : w.heap.size ≤ B) (hf : Fr P B w w') : LstG enc w' v l :=
  h.below ⟨hf.os, hf.tape, hf.output, hf.size, fun k hk => hf.block k hk (.inl (Nat.lt_of_lt_of_le hk hB))⟩
end Go.Proofs.YtkhalnjgbdpfhaaGreat
namespace Go.Proofs.YtkhalnjgbdpfhaaGreat
open Go.RowKit

/-- A contract that only draws, in a region that draws. -/
theorem quiet_on {P : Program} {f : FuncId} {args : Array Value} {x : Value} (h : ∀ w : World, Calls P f args w fun e w' => e = .returned x ∧ ∃ m, w' = w.drewN m) (w : World) (n : Nat) : Calls P f args (w.drewN n) fun e w'' => e = .returned x ∧ ∃ m, w'' = w.drewN m :=
  (h _).mono fun _ _ ⟨he, m, hm⟩ => ⟨he, n + m, by rw [hm, World.drewN_drewN]⟩
theorem Calls.below {P : Program} {f : FuncId} {args : Array Value} {x : Ending} {w : World} (h : Calls P f args w fun e w' => e = x ∧ ∃ m, w' = w.drewN m) : Calls P f args w fun e w' => e = x ∧ Below w.heap.size w w' :=
  h.mono fun _ _ ⟨he, m, hm⟩ => ⟨he, hm ▸ below_drewN (Below.refl _ _) m⟩
theorem drew_below {w wr : World} (h : ∃ n, wr = w.drewN n) : Below w.heap.size w wr := by
  obtain ⟨n, rfl⟩ := h
  exact below_drewN (Below.refl _ _) n
theorem drew_on {w wr : World} (h : Hid (∃ n, wr = w.drewN n)) (m : Nat) : Hid (∃ n, wr.drewN m = w.drewN n) := by
  obtain ⟨n, rfl⟩ := h.out
  exact Lib.hid ⟨n + m, World.drewN_drewN _ _ _⟩

theorem same_at {a b : List Int} (k : Nat) (x y : Int) (hx : a[k]? = some x) (hy : b[k]? = some y) (h : x ≠ y) : decide (a = b) = false := by
  rw [decide_eq_false_iff_not]
  intro e
  rw [e, hy] at hx
  exact h (Option.some.inj hx).symm
theorem same_of {a b : List Int} (hl : a.length = b.length) (h : ∀ (j : Nat) x, j < a.length → a[j]? = some x → b[j]? = some x) : decide (a = b) = true := by
  rw [decide_eq_true_iff]
  apply List.ext_getElem? fun j => ?_
  by_cases hj : j < a.length
  · obtain ⟨x, hx⟩ := at_lt hj
    rw [hx, h j x hj hx]
  · rw [List.getElem?_eq_none (by omega), List.getElem?_eq_none (by omega)]
end Go.Proofs.YtkhalnjgbdpfhaaGreat
namespace Go.Proofs.YtkhalnjgbdpfhaaGreat
open Go.RowKit Go.ChangeShapes Go.WideShapes Go.Deep

/-- A slice of structs among a struct's parts. -/
theorem trod_listG {α : Type} [Inhabited α] {enc' : α → List Value} {ok : α → Prop} {k : Nat} {ST T : TypeId} (k0 : 0 < k) (hk : ∀ a, (enc' a).length = k) (hu : Tryz.prog.underlying ST = some (.slice T)) (hC : Tryz.prog.cellsOf T = k)
    {H : Type} {enc : TypeId × Value → H} {W : World} {n : Nat} {cs : List Value} {x : DataW H × List MemPlace}
    (he : ∀ n cs x, DataW.trod enc Tryz.prog W 0 (fun _ => true) true n T cs = some x → ∃ a : α, ok a ∧ cs = enc' a)
    (hf : DataW.trod enc Tryz.prog W 0 (fun _ => true) true n ST cs = some x) : ∃ v l, cs = [v] ∧ LstG enc' W v l ∧ l.length ≤ 9223372036854775807 ∧ ∀ a ∈ l, ok a := by
  rcases open_slice hu hf with ⟨hcs, _⟩ | ⟨a, len, cap, m, n, D, Pl, hcs, _, hl, hm, hmm, _, hcell⟩
  · exact ⟨_, [], hcs, LstG.nil _ _, by simp, fun x hx => absurd hx (by simp)⟩
  · simp only [if_true] at hmm
    rw [hC] at hcell
    have each : ∀ i, i < len → ∃ q : α, ok q ∧ ∀ j x, (enc' q)[j]? = some x → W.cell? (a.add (i * k + j)) = some x := by
      intro i hi
      obtain ⟨cs', h1, h2⟩ := hcell i (by omega)
      obtain ⟨q, hq, rfl⟩ := he _ _ _ h2
      obtain ⟨_, hcl, hat⟩ := World.cells?_some h1
      refine ⟨q, hq, fun j x hj => ?_⟩
      have hjl := (List.getElem?_eq_some_iff.1 hj).1
      rw [hk] at hjl
      rw [← Go.Deep.add_add, hat j hjl, hj]
    let f : Nat → α := fun i => if hi : i < len then Classical.choose (each i hi) else default
    have hfi : ∀ i (hi : i < len), ok (f i) ∧ ∀ j x, (enc' (f i))[j]? = some x → W.cell? (a.add (i * k + j)) = some x := by
      intro i hi
      show ok (if hi : i < len then _ else _) ∧ _
      simp only [f, dif_pos hi]
      exact Classical.choose_spec (each i hi)
    have hll : ((List.range len).map f).length = len := by simp
    have hat : ∀ i, i < len → ((List.range len).map f)[i]? = some (f i) := fun i hi => by simp [hi]
    refine ⟨_, (List.range len).map f, hcs, ⟨some a, cap, by rw [hll], by rw [hll]; exact hl, fun h => absurd h (by simp), fun h0 => ?_⟩, by rw [hll]; unfold maxLen at hm; omega, fun q hq => ?_⟩
    · rw [hll] at h0
      obtain ⟨b, off, spot⟩ := a
      have hx0 : ∃ x, (enc' (f 0))[0]? = some x := ⟨_, List.getElem?_eq_getElem (by rw [hk]; exact k0)⟩
      obtain ⟨x0, hx0⟩ := hx0
      have h00 := (hfi 0 h0).2 0 x0 hx0
      have hspot : spot = none := by simpa [Addr.add] using World.cell?_spot h00
      subst hspot
      have hadd : ∀ j, (⟨b, off, none⟩ : Addr).add j = ⟨b, off + j, none⟩ := fun j => by unfold Addr.add; split <;> simp_all
      refine ⟨b, off, rfl, ?_, fun j x hj => ?_⟩
      · rw [hadd] at h00
        exact World.block_lt_of_cell? _ _ h00
      · have hjl := (List.getElem?_eq_some_iff.1 hj).1
        rw [fl_len hk, hll] at hjl
        have hi : j / k < len := Nat.div_lt_of_lt_mul (by rw [Nat.mul_comm]; exact hjl)
        have hjk : j / k * k + j % k = j := by rw [Nat.mul_comm]; exact Nat.div_add_mod j k
        have h2 := fl_at hk (hat _ hi) (j % k) (Nat.mod_lt _ k0)
        rw [hjk, hj] at h2
        have := (hfi _ hi).2 (j % k) x h2.symm
        rw [hjk, hadd] at this
        exact this
    · obtain ⟨i, hi, rfl⟩ := List.mem_map.1 hq
      exact (hfi i (List.mem_range.1 hi)).1
theorem trod_struct5 {H : Type} {enc : TypeId × Value → H} {P : Program} {w : World} {base : Nat} {spare : Nat → Bool} {held : Bool} {t : TypeId} {f0 f1 f2 f3 f4 : Field} {fuel : Nat} {cs : List Value} {x : DataW H × List MemPlace} (ht : P.underlying t = some (.struct #[f0, f1, f2, f3, f4])) (h : DataW.trod enc P w base spare held fuel t cs = some x) :
    ∃ y0 y1 y2 y3 y4 n, cs.length = P.cellsOf t ∧ DataW.trod enc P w base spare held n f0.type ((cs.drop f0.offset).take (P.cellsOf f0.type)) = some y0 ∧
      DataW.trod enc P w base spare held n f1.type ((cs.drop f1.offset).take (P.cellsOf f1.type)) = some y1 ∧ DataW.trod enc P w base spare held n f2.type ((cs.drop f2.offset).take (P.cellsOf f2.type)) = some y2 ∧
      DataW.trod enc P w base spare held n f3.type ((cs.drop f3.offset).take (P.cellsOf f3.type)) = some y3 ∧ DataW.trod enc P w base spare held n f4.type ((cs.drop f4.offset).take (P.cellsOf f4.type)) = some y4 := by
  obtain ⟨xs, n, _, rfl, hl, hlen, hf⟩ := DataW.trod_struct ht h
  match xs, hlen with
  | [y0, y1, y2, y3, y4], _ => exact ⟨y0, y1, y2, y3, y4, n, hl, by simpa using hf 0 f0 rfl, by simpa using hf 1 f1 rfl, by simpa using hf 2 f2 rfl, by simpa using hf 3 f3 rfl, by simpa using hf 4 f4 rfl⟩
theorem array_five {α : Type} {a : Array α} (h : a.size = 5) : ∃ x0 x1 x2 x3 x4, a = #[x0, x1, x2, x3, x4] := by
  obtain ⟨l⟩ := a
  match l, h with
  | [x0, x1, x2, x3, x4], _ => exact ⟨x0, x1, x2, x3, x4, rfl⟩
/-- A struct of five one-cell fields by value. -/
theorem open_agg5 {H : Type} {enc : TypeId × Value → H} {P : Program} {w : World} {base : Nat} {spare : Nat → Bool} {held : Bool} {r : Reach} {b0 : Nat} {t : TypeId} {f0 f1 f2 f3 f4 : Field} {v : Value} {d : DataW H} {p : List MemPlace} (hs : P.underlying t = some (.struct #[f0, f1, f2, f3, f4])) (hone : oneCellFields P #[f0, f1, f2, f3, f4] = true) (hC : P.cellsOf t = 5)
    (hv : Value.okWide P w r b0 t v) (h : DataW.Trod enc P w base spare held t v d p) :
    ∃ (v0 v1 v2 v3 v4 : Value) (y0 y1 y2 y3 y4 : DataW H × List MemPlace) (n : Nat), v = .agg #[v0, v1, v2, v3, v4] ∧
      DataW.trod enc P w base spare held n f0.type [v0] = some y0 ∧ DataW.trod enc P w base spare held n f1.type [v1] = some y1 ∧ DataW.trod enc P w base spare held n f2.type [v2] = some y2 ∧ DataW.trod enc P w base spare held n f3.type [v3] = some y3 ∧ DataW.trod enc P w base spare held n f4.type [v4] = some y4 := by
  obtain ⟨cs, rfl, hsz⟩ := okWide_struct hs hv
  obtain ⟨c0, c1, c2, c3, c4, rfl⟩ := array_five (hsz.trans hC)
  obtain ⟨fuel, hf⟩ := h
  obtain ⟨y0, y1, y2, y3, y4, n, _, h0, h1, h2, h3, h4⟩ := trod_struct5 hs hf
  obtain ⟨o0, k0⟩ := hone_of hone 0 f0 rfl
  obtain ⟨o1, k1⟩ := hone_of hone 1 f1 rfl
  obtain ⟨o2, k2⟩ := hone_of hone 2 f2 rfl
  obtain ⟨o3, k3⟩ := hone_of hone 3 f3 rfl
  obtain ⟨o4, k4⟩ := hone_of hone 4 f4 rfl
  exact ⟨c0, c1, c2, c3, c4, y0, y1, y2, y3, y4, n, rfl, by simpa [Value.cells, o0, k0] using h0, by simpa [Value.cells, o1, k1] using h1, by simpa [Value.cells, o2, k2] using h2, by simpa [Value.cells, o3, k3] using h3, by simpa [Value.cells, o4, k4] using h4⟩
end Go.Proofs.YtkhalnjgbdpfhaaGreat
namespace Go.Proofs.YtkhalnjgbdpfhaaGreat
open Go.RowKit

theorem ints_set (l : List Int) (i : Nat) (x : Int) : ints (l.set i x) = (ints l).set i (.int .i64 x) := by unfold ints; rw [List.map_set]
theorem OwnI.low {w : World} {base : Nat} {v : Value} {l : List Int} (h : OwnI w base v l) : v = .slice none 0 0 ∧ l = [] ∨ ∃ g c, v = .slice (some ⟨g, 0, none⟩) l.length c ∧ base ≤ g ∧ g < w.heap.size ∧ l.length ≤ c := by
  rcases h.2 with ⟨h0, h1⟩ | ⟨g, cap, cur, hv, hbg, hg, hn, _⟩
  · exact .inl ⟨h0, List.length_eq_zero_iff.1 h1⟩
  · refine .inr ⟨g, cap, hv, hbg, ?_, hn⟩
    rcases Nat.lt_or_ge g w.heap.size with h | h
    · exact h
    · rw [Array.getElem?_eq_none h] at hg; cases hg
theorem OwnI.at {w : World} {base g c : Nat} {l : List Int} (h : OwnI w base (.slice (some ⟨g, 0, none⟩) l.length c) l) {i : Nat} {x : Int} (hx : l[i]? = some x) : w.cell? ⟨g, i, none⟩ = some (.int .i64 x) ∧ w.frozen? ⟨g, i, none⟩ = false := by
  have hi := (List.getElem?_eq_some_iff.1 hx).1
  refine ⟨?_, World.ownsRow.frozenAt h _⟩
  rw [World.ownsRow.cellAt h _ (by omega)]
  exact ints_at l i x hx
theorem OwnI.put {w : World} {base g c : Nat} {l : List Int} (h : OwnI w base (.slice (some ⟨g, 0, none⟩) l.length c) l) (i : Nat) (x : Int) : OwnI (w.setCell ⟨g, i, none⟩ (.int .i64 x)) base (.slice (some ⟨g, 0, none⟩) l.length c) (l.set i x) := by
  have h1 := (World.ownsRow.stored h i (.int .i64 x)).1
  unfold OwnI
  rw [List.length_set, ints_set]
  exact h1
theorem OwnI.atn {w : World} {base g c n : Nat} {l : List Int} (hl : l.length = n) (h : OwnI w base (.slice (some ⟨g, 0, none⟩) n c) l) {i : Nat} {x : Int} (hx : l[i]? = some x) : w.cell? ⟨g, i, none⟩ = some (.int .i64 x) ∧ w.frozen? ⟨g, i, none⟩ = false := by
  subst hl; exact OwnI.at h hx
theorem OwnI.putn {w : World} {base g c n : Nat} {l : List Int} (hl : l.length = n) (h : OwnI w base (.slice (some ⟨g, 0, none⟩) n c) l) (i : Nat) (x : Int) : OwnI (w.setCell ⟨g, i, none⟩ (.int .i64 x)) base (.slice (some ⟨g, 0, none⟩) n c) (l.set i x) := by
  subst hl; exact OwnI.put h i x
/-- Appending one int to a row of the call's own: where the row lies then. -/
theorem app_intW (w : World) {ops : Array Oper} {rest : List Oper} {o : Oper} {a : Act} {Q : Exit → Act → World → Prop} (hgd : o.guard = none) (s x : Operand)
    (ho : o.op = .call { callee := .builtin .append, args := #[s, x], argTypes := #[137, 137] }) (base : Nat) (v : Value) (l : List Int) (m : Int) (hs : a.eval s = v) (hown : OwnI w base v l)
    (k : Nat) (cells : Array Value) (hk : w.heap[k]? = some (.cells cells 3 (0, 0))) (hc : cells = #[.int .i64 m]) (hx : a.eval x = .slice (some ⟨k, 0, none⟩) 1 1) (hb : base ≤ w.heap.size)
    (hl : l.length + 1 ≤ 1099511627776) (h : ∀ v' w', OwnI w' base v' (l ++ [m]) → w.grownBy w' v.ownBlock → (∀ g, v'.ownBlock = some g → v.ownBlock = some g ∨ g = w.heap.size) → wpList Tryz.prog ops Q rest (a.put o.dst v') w') : wpList Tryz.prog ops Q (o :: rest) a w := by
  obtain ⟨i, hi, hz, hsz, hby⟩ := info_parts info_int
  refine wpList_append_where w hgd s x 137 ho base 3 i _ 1 8 Tryz.underlying137 hi hz hsz hby rfl (by decide) v l.length (ints l) hs hown ⟨k, 0, none⟩ 1 1 (ints [m]) hx (by simp) ?_ (ints_one [m]) (by unfold maxLen; omega) (by omega) hb ?_
  · intro j u hu
    have hadd : (⟨k, 0, none⟩ : Addr).add j = ⟨k, j, none⟩ := by unfold Addr.add; split <;> simp_all
    rw [hadd, cell_of_row w k j cells _ _ hk, ← hu, hc]
    simp
  · intro v' w' h1 h2 h3
    refine h v' w' ?_ h2 h3
    unfold OwnI ints
    rw [List.length_append, List.map_append]
    exact h1
end Go.Proofs.YtkhalnjgbdpfhaaGreat
