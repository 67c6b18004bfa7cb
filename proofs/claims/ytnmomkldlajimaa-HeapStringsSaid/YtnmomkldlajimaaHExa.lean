/-
  The heap and the sorted list of a mode; the chapter's examples. Condition: keys are ints; at most 10^6 elements.
-/
import Derived.Test.YtnmomkldlajimaaHPerm
namespace Go.Proofs.Ytnmomkldlajimaa
open Go.RowKit

set_option maxRecDepth 100000 in
theorem made_any (m : Int) (w : World) :
    Calls Try.prog 10 #[.int .i64 m] w fun e w' => e = .returned (.pointer (some ⟨w.heap.size, 0, none⟩)) ∧ St w' w.heap.size (fnM m) [] 0 ∧ Below w.heap.size w w' := by
  by_cases h0 : m = 0
  · subst h0
    have C := Lib.hid (new_any fun_up w)
    go_enter Try.func10, Try.ntmps10
    go_wp2_with fail
    refine C.out.mono ?_
    rintro e w1 ⟨rfl, s1, b1⟩
    have R : Hid (St w1 w.heap.size (fnM 0) [] 0 ∧ Below w.heap.size w w1) := ⟨s1, b1⟩
    clear s1 b1
    go_wp2_with fail
    go_ret
    exact ⟨rfl, R.out⟩
  by_cases h1 : m = 1
  · subst h1
    have C := Lib.hid (new_any fun_down w)
    clear h0
    go_enter Try.func10, Try.ntmps10
    go_wp2_with fail
    refine C.out.mono ?_
    rintro e w1 ⟨rfl, s1, b1⟩
    have R : Hid (St w1 w.heap.size (fnM 1) [] 0 ∧ Below w.heap.size w w1) := ⟨s1, b1⟩
    clear s1 b1
    go_wp2_with fail
    go_ret
    exact ⟨rfl, R.out⟩
  by_cases h2 : m = 2
  · subst h2
    have C := Lib.hid (new_any fun_rest w)
    clear h0 h1
    go_enter Try.func10, Try.ntmps10
    go_wp2_with fail
    refine C.out.mono ?_
    rintro e w1 ⟨rfl, s1, b1⟩
    have R : Hid (St w1 w.heap.size (fnM 2) [] 0 ∧ Below w.heap.size w w1) := ⟨s1, b1⟩
    clear s1 b1
    go_wp2_with fail
    go_ret
    exact ⟨rfl, R.out⟩
  have q0 := beq_false h0
  have q1 := beq_false h1
  have q2 := beq_false h2
  by_cases h3 : m = 3
  · subst h3
    have C := Lib.hid (new_any fun_all w)
    clear h0 h1 h2 q0 q1 q2
    go_enter Try.func10, Try.ntmps10
    go_wp2_with fail
    refine C.out.mono ?_
    rintro e w1 ⟨rfl, s1, b1⟩
    have R : Hid (St w1 w.heap.size (fnM 3) [] 0 ∧ Below w.heap.size w w1) := ⟨s1, b1⟩
    clear s1 b1
    go_wp2_with fail
    go_ret
    exact ⟨rfl, R.out⟩
  have q3 := beq_false h3
  have C := Lib.hid (new_any fun_not w)
  have E : Hid (fnM m = .func (.func 33) #[] #[]) := by
    unfold fnM
    rw [if_neg h0, if_neg h1, if_neg h2, if_neg h3]
    exact rfl
  clear h0 h1 h2 h3
  go_enter Try.func10, Try.ntmps10
  go_wp2_with fail
  refine C.out.mono ?_
  rintro e w1 ⟨rfl, s1, b1⟩
  have R : Hid (St w1 w.heap.size (fnM m) [] 0 ∧ Below w.heap.size w w1) := by rw [E.out]; exact ⟨s1, b1⟩
  clear s1 b1
  go_wp2_with fail
  go_ret
  exact ⟨rfl, R.out⟩
/-- The same for the sorted list. -/
def Sorted7 (m : Int) (l : List Pr) (w : World) (e : Ending) (w' : World) : Prop := ∃ v', e = .returned v' ∧ OwnP w' w.heap.size v' (sortH (lessM m) l) ∧ Below w.heap.size w w'
set_option maxRecDepth 100000 in
theorem sorted_any (m : Int) (v : Value) (l : List Pr) (hk : ∀ a ∈ l, Ok2 a) (hl : l.length ≤ 1000000) (w : World) (h : LstP w v l) :
    Calls Try.prog 21 #[.int .i64 m, v] w (Sorted7 m l w) := by
  by_cases h0 : m = 0
  · subst h0
    have C := Lib.hid (sort_any fun_up v l hk hl w h)
    clear h
    go_enter Try.func21, Try.ntmps21
    go_wp2_with fail
    refine C.out.mono ?_
    rintro e w1 ⟨v1, rfl, s1, b1⟩
    have R : Hid (Sorted7 0 l w (.returned v1) w1) := ⟨v1, rfl, s1, b1⟩
    clear s1 b1
    go_wp2_with fail
    go_ret
    exact R.out
  by_cases h1 : m = 1
  · subst h1
    have C := Lib.hid (sort_any fun_down v l hk hl w h)
    clear h h0
    go_enter Try.func21, Try.ntmps21
    go_wp2_with fail
    refine C.out.mono ?_
    rintro e w1 ⟨v1, rfl, s1, b1⟩
    have R : Hid (Sorted7 1 l w (.returned v1) w1) := ⟨v1, rfl, s1, b1⟩
    clear s1 b1
    go_wp2_with fail
    go_ret
    exact R.out
  by_cases h2 : m = 2
  · subst h2
    have C := Lib.hid (sort_any fun_rest v l hk hl w h)
    clear h h0 h1
    go_enter Try.func21, Try.ntmps21
    go_wp2_with fail
    refine C.out.mono ?_
    rintro e w1 ⟨v1, rfl, s1, b1⟩
    have R : Hid (Sorted7 2 l w (.returned v1) w1) := ⟨v1, rfl, s1, b1⟩
    clear s1 b1
    go_wp2_with fail
    go_ret
    exact R.out
  have q0 := beq_false h0
  have q1 := beq_false h1
  have q2 := beq_false h2
  by_cases h3 : m = 3
  · subst h3
    have C := Lib.hid (sort_any fun_all v l hk hl w h)
    clear h h0 h1 h2 q0 q1 q2
    go_enter Try.func21, Try.ntmps21
    go_wp2_with fail
    refine C.out.mono ?_
    rintro e w1 ⟨v1, rfl, s1, b1⟩
    have R : Hid (Sorted7 3 l w (.returned v1) w1) := ⟨v1, rfl, s1, b1⟩
    clear s1 b1
    go_wp2_with fail
    go_ret
    exact R.out
  have q3 := beq_false h3
  have C := Lib.hid (sort_any fun_not v l hk hl w h)
  have E : Hid (lessM m = lNot) := by
    unfold lessM
    rw [if_neg h0, if_neg h1, if_neg h2, if_neg h3]
    exact rfl
  clear h h0 h1 h2 h3
  go_enter Try.func21, Try.ntmps21
  go_wp2_with fail
  refine C.out.mono ?_
  rintro e w1 ⟨v1, rfl, s1, b1⟩
  have R : Hid (Sorted7 m l w (.returned v1) w1) := ⟨v1, rfl, by rw [E.out]; exact s1, b1⟩
  clear s1 b1
  go_wp2_with fail
  go_ret
  exact R.out

/-! ### The examples -/
def exK : List Int := [3, 1, 2]
def exP : List Pr := [(3, 0), (1, 0), (2, 0)]
def exS : List Pr := [(1, 1), (0, 2), (1, 3), (0, 4)]
theorem ex_sel : selR lUp exP = [(1, 0), (2, 0), (3, 0)] := by
  unfold exP
  rw [selR_some lUp (a := (1, 0)) (by decide), show List.eraseIdx [((3 : Int), (0 : Int)), (1, 0), (2, 0)] (firstI lUp [(3, 0), (1, 0), (2, 0)]) = [(3, 0), (2, 0)] by decide]
  rw [selR_some lUp (a := (2, 0)) (by decide), show List.eraseIdx [((3 : Int), (0 : Int)), (2, 0)] (firstI lUp [(3, 0), (2, 0)]) = [(3, 0)] by decide]
  rw [selR_some lUp (a := (3, 0)) (by decide), show List.eraseIdx [((3 : Int), (0 : Int))] (firstI lUp [(3, 0)]) = [] by decide, selR_nil]
theorem ex_sel2 : selR lUp exS = [(0, 2), (0, 4), (1, 1), (1, 3)] := by
  unfold exS
  rw [selR_some lUp (a := (0, 2)) (by decide), show List.eraseIdx [((1 : Int), (1 : Int)), (0, 2), (1, 3), (0, 4)] (firstI lUp [(1, 1), (0, 2), (1, 3), (0, 4)]) = [(1, 1), (1, 3), (0, 4)] by decide]
  rw [selR_some lUp (a := (0, 4)) (by decide), show List.eraseIdx [((1 : Int), (1 : Int)), (1, 3), (0, 4)] (firstI lUp [(1, 1), (1, 3), (0, 4)]) = [(1, 1), (1, 3)] by decide]
  rw [selR_some lUp (a := (1, 1)) (by decide), show List.eraseIdx [((1 : Int), (1 : Int)), (1, 3)] (firstI lUp [(1, 1), (1, 3)]) = [(1, 3)] by decide]
  rw [selR_some lUp (a := (1, 3)) (by decide), show List.eraseIdx [((1 : Int), (3 : Int))] (firstI lUp [(1, 3)]) = [] by decide, selR_nil]
/-- Sort gives what selection gives. -/
theorem sort_sel {less : Pr → Pr → Bool} (o : IsOrd less) (l : List Pr) : sortH less l = selR less l := by
  unfold sortH
  rw [drain_sel o _ (pushAll_heap o l [] 0 Hp.nil) (numb 0 l) (pushAll_perm less l [] 0) (numb_inc l 0), numb_map]
/-- The first of a heap made of a list. -/
theorem top_sel {less : Pr → Pr → Bool} (o : IsOrd less) (l : List Pr) {a : Pr × Nat} (ha : (pushAll less [] 0 l)[0]? = some a) : l[firstI less l]? = some a.1 := by
  have hp := pushAll_perm less l [] 0
  rw [List.nil_append] at hp
  have hl : 0 < l.length := by
    have := (List.getElem?_eq_some_iff.1 ha).1
    rwa [pushAll_len, List.length_nil, Nat.zero_add] at this
  have hf := firstI_is o hl
  rw [← numb_map l 0] at hf
  obtain ⟨h1, _⟩ := root_first o (pushAll_heap o l [] 0 Hp.nil) hp (numb_inc l 0) hf ha
  rw [numb_map] at h1
  have h2 : ((numb 0 l).map (·.1))[firstI less l]? = some a.1 := by rw [List.getElem?_map, h1]; rfl
  rwa [numb_map] at h2
end Go.Proofs.Ytnmomkldlajimaa
