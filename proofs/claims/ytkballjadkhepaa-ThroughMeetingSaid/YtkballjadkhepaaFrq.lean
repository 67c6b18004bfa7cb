/-
  Plain facts about frequencies: which are sound, their starts, the starts of a trip's frequencies together, calls started at a time, the first frequency that is not valid, what follows for frequencies that are accepted: no program. Condition: none beyond each theorem's own hypotheses.
-/
import Derived.Test.YtkballjadkhepaaTcl
import Derived.Test.YtkballjadkhepaaIsr
namespace Go.Proofs.Ytkballjadkhepaa
open Go Go.RowKit

/-- A frequency: trip, from, to, every. -/
abbrev Fq := Int × Int × Int × Int

/-! ### Starts -/
/-- Whether a frequency is sound. -/
def sndF (f : Fq) : Bool := decide (0 ≤ f.2.1 ∧ f.2.1 < f.2.2.1 ∧ f.2.2.1 ≤ 172800 ∧ 1 ≤ f.2.2.2 ∧ f.2.2.2 ≤ 86400)
theorem snd_iff {t a b e : Int} : sndF (t, a, b, e) = true ↔ (0 ≤ a ∧ a < b ∧ b ≤ 172800 ∧ 1 ≤ e ∧ e ≤ 86400) := by unfold sndF; exact decide_eq_true_iff
theorem snd_no {t a b e : Int} (h : ¬ (0 ≤ a ∧ a < b ∧ b ≤ 172800 ∧ 1 ≤ e ∧ e ≤ 86400)) : sndF (t, a, b, e) = false := by unfold sndF; exact decide_eq_false h
/-- How many starts there are. -/
def cntF (f : Fq) : Nat := ((f.2.2.1 - f.2.1 - 1) / f.2.2.2 + 1).toNat
/-- The start with this number. -/
def nthF (f : Fq) (k : Nat) : Int := f.2.1 + (k : Int) * f.2.2.2
/-- The starts. -/
def lstF (f : Fq) : List Int := (List.range (cntF f)).map (nthF f)
/-- The starts of a sound frequency, none of another one. -/
def stsF (f : Fq) : List Int := if sndF f then lstF f else []
theorem sts_yes {f : Fq} (h : sndF f = true) : stsF f = lstF f := by unfold stsF; rw [if_pos h]
theorem sts_no {f : Fq} (h : sndF f = false) : stsF f = [] := by unfold stsF; rw [if_neg (by rw [h]; simp)]
theorem cnt_lt {f : Fq} (h : sndF f = true) (k : Nat) : k < cntF f ↔ nthF f k < f.2.2.1 := by
  obtain ⟨t, a, b, e⟩ := f
  obtain ⟨h1, h2, h3, h4, h5⟩ := snd_iff.1 h
  unfold cntF nthF
  show k < ((b - a - 1) / e + 1).toNat ↔ a + (k : Int) * e < b
  have q0 : 0 ≤ (b - a - 1) / e := Int.ediv_nonneg (by omega) (by omega)
  have q1 : (k : Int) ≤ (b - a - 1) / e ↔ (k : Int) * e ≤ b - a - 1 := Int.le_ediv_iff_mul_le (by omega)
  generalize (b - a - 1) / e = q at q0 q1 ⊢
  generalize (k : Int) * e = m at q1 ⊢
  omega
theorem nth_zero (f : Fq) : nthF f 0 = f.2.1 := by unfold nthF; simp
theorem nth_next (f : Fq) (k : Nat) : nthF f (k + 1) = nthF f k + f.2.2.2 := by
  unfold nthF
  rw [Int.natCast_add, Int.add_mul, Int.natCast_one, Int.one_mul]
  omega
theorem nth_up {f : Fq} (h : sndF f = true) {i k : Nat} (hik : i ≤ k) : nthF f i ≤ nthF f k := by
  obtain ⟨t, a, b, e⟩ := f
  obtain ⟨h1, h2, h3, h4, h5⟩ := snd_iff.1 h
  unfold nthF
  show a + (i : Int) * e ≤ a + (k : Int) * e
  have := Int.mul_le_mul_of_nonneg_right (show (i : Int) ≤ (k : Int) by omega) (show 0 ≤ e by omega)
  omega
theorem nth_strict {f : Fq} (h : sndF f = true) {i k : Nat} (hik : i < k) : nthF f i < nthF f k := by
  have h1 := nth_up h (show i + 1 ≤ k by omega)
  rw [nth_next] at h1
  obtain ⟨t, a, b, e⟩ := f
  have h2 := snd_iff.1 h
  simp only at h1 ⊢
  omega
theorem nth_low {f : Fq} (h : sndF f = true) (k : Nat) : f.2.1 ≤ nthF f k := by
  have := nth_up h (Nat.zero_le k)
  rw [nth_zero] at this
  exact this
theorem cnt_pos {f : Fq} (h : sndF f = true) : 0 < cntF f := by
  rw [cnt_lt h, nth_zero]
  obtain ⟨t, a, b, e⟩ := f
  exact (snd_iff.1 h).2.1
theorem cnt_le {f : Fq} (h : sndF f = true) : cntF f ≤ 172800 := by
  rcases Nat.lt_or_ge 172800 (cntF f) with h1 | h1
  · exfalso
    have h2 := (cnt_lt h 172800).1 h1
    obtain ⟨t, a, b, e⟩ := f
    have h3 := snd_iff.1 h
    unfold nthF at h2
    simp only at h2
    omega
  · exact h1
theorem lst_len (f : Fq) : (lstF f).length = cntF f := by unfold lstF; rw [List.length_map, List.length_range]
theorem sts_le (f : Fq) : (stsF f).length ≤ 172800 := by
  cases h : sndF f with
  | false => rw [sts_no h]; simp
  | true => rw [sts_yes h, lst_len]; exact cnt_le h
theorem lst_at {f : Fq} {k : Nat} (h : k < cntF f) : (lstF f)[k]? = some (nthF f k) := by
  unfold lstF
  rw [List.getElem?_map, List.getElem?_range h]
  rfl
theorem lst_next {f : Fq} {k : Nat} (h : k < cntF f) : (lstF f).take (k + 1) = (lstF f).take k ++ [nthF f k] := take_at _ _ _ (lst_at h)
theorem lst_all (f : Fq) : (lstF f).take (cntF f) = lstF f := List.take_of_length_le (by rw [lst_len]; exact Nat.le_refl _)
theorem lst_pre {f : Fq} (k : Nat) : (lstF f).take k <+: lstF f := List.take_prefix _ _
theorem lst_mem {f : Fq} {x : Int} (h : x ∈ lstF f) : ∃ k, k < cntF f ∧ x = nthF f k := by
  unfold lstF at h
  obtain ⟨k, hk, rfl⟩ := List.mem_map.1 h
  exact ⟨k, List.mem_range.1 hk, rfl⟩
theorem sts_mem {f : Fq} {x : Int} (h : x ∈ stsF f) : sndF f = true ∧ ∃ k, k < cntF f ∧ x = nthF f k := by
  cases hs : sndF f with
  | false => rw [sts_no hs] at h; cases h
  | true => rw [sts_yes hs] at h; exact ⟨rfl, lst_mem h⟩
/-- A start lies in the interval. -/
theorem sts_in {f : Fq} {x : Int} (h : x ∈ stsF f) : f.2.1 ≤ x ∧ x < f.2.2.1 := by
  obtain ⟨hs, k, hk, rfl⟩ := sts_mem h
  exact ⟨nth_low hs k, (cnt_lt hs k).1 hk⟩
theorem sts_nodup (f : Fq) : (stsF f).Nodup := by
  cases hs : sndF f with
  | false => rw [sts_no hs]; exact List.nodup_nil
  | true =>
    rw [sts_yes hs]
    unfold lstF List.Nodup
    rw [List.pairwise_map]
    refine List.Pairwise.imp ?_ (List.pairwise_lt_range (n := cntF f))
    intro i k hik
    have := nth_strict hs hik
    omega

/-! ### The starts of a trip -/
/-- The starts of all frequencies of the trip, one frequency behind the other. -/
def insF (t : Int) (l : List Fq) : List Int := (l.filter fun f => decide (f.1 = t)).flatMap stsF
theorem ins_nil (t : Int) : insF t [] = [] := rfl
theorem ins_app (t : Int) (l m : List Fq) : insF t (l ++ m) = insF t l ++ insF t m := by unfold insF; rw [List.filter_append, List.flatMap_append]
theorem ins_yes {t : Int} {l : List Fq} {k : Nat} {f : Fq} (h : l[k]? = some f) (ht : f.1 = t) : insF t (l.take (k + 1)) = insF t (l.take k) ++ stsF f := by
  have e : insF t [f] = stsF f := by
    unfold insF
    simp [ht]
  rw [take_at l k f h, ins_app, e]
theorem ins_no {t : Int} {l : List Fq} {k : Nat} {f : Fq} (h : l[k]? = some f) (ht : f.1 ≠ t) : insF t (l.take (k + 1)) = insF t (l.take k) := by
  rw [take_at l k f h, ins_app]
  have : insF t [f] = [] := by
    unfold insF
    rw [List.filter_cons_of_neg (by rw [decide_eq_false ht]; simp)]
    rfl
  rw [this, List.append_nil]
theorem ins_le (t : Int) : ∀ l : List Fq, (insF t l).length ≤ l.length * 172800
  | [] => Nat.zero_le _
  | f :: r => by
    have ih := ins_le t r
    have h1 := sts_le f
    have e : insF t (f :: r) = insF t [f] ++ insF t r := ins_app t [f] r
    rw [e, List.length_append, List.length_cons]
    have h2 : (insF t [f]).length ≤ (stsF f).length := by
      unfold insF
      rw [List.filter_cons]
      split
      · simp
      · simp
    omega
theorem ins_mem {t : Int} {l : List Fq} {x : Int} : x ∈ insF t l ↔ ∃ f ∈ l, f.1 = t ∧ x ∈ stsF f := by
  unfold insF
  rw [List.mem_flatMap]
  constructor
  · rintro ⟨f, hf, hx⟩
    obtain ⟨h1, h2⟩ := List.mem_filter.1 hf
    exact ⟨f, h1, of_decide_eq_true h2, hx⟩
  · rintro ⟨f, hf, ht, hx⟩
    exact ⟨f, List.mem_filter.2 ⟨hf, decide_eq_true ht⟩, hx⟩
/-- Whether a frequency has this trip. -/
def repF (t : Int) (l : List Fq) : Bool := l.any fun f => decide (f.1 = t)
theorem rep_hit {t : Int} {l : List Fq} {k : Nat} {f : Fq} (h : l[k]? = some f) (ht : f.1 = t) : repF t l = true := by
  unfold repF
  rw [List.any_eq_true]
  exact ⟨f, List.mem_iff_getElem?.2 ⟨k, h⟩, decide_eq_true ht⟩
theorem rep_no {t : Int} {l : List Fq} (h : ∀ (j : Nat) f, l[j]? = some f → f.1 ≠ t) : repF t l = false := by
  unfold repF
  rw [List.any_eq_false]
  intro f hf
  obtain ⟨j, hj⟩ := List.mem_iff_getElem?.1 hf
  rw [decide_eq_true_iff]
  exact h j f hj

/-! ### How many starts there are in all -/
/-- The number of all starts of sound frequencies. -/
def totF : List Fq → Nat
  | [] => 0
  | f :: r => (stsF f).length + totF r
theorem tot_app : ∀ (l m : List Fq), totF (l ++ m) = totF l + totF m
  | [], m => by rw [List.nil_append]; show _ = 0 + _; omega
  | f :: r, m => by
    rw [List.cons_append]
    show _ + totF (r ++ m) = _ + totF r + _
    rw [tot_app r m]
    omega
theorem tot_next {l : List Fq} {k : Nat} {f : Fq} (h : l[k]? = some f) : totF (l.take (k + 1)) = totF (l.take k) + (stsF f).length := by
  rw [take_at l k f h, tot_app]
  rfl
theorem tot_le : ∀ l : List Fq, totF l ≤ l.length * 172800
  | [] => Nat.zero_le _
  | f :: r => by
    have ih := tot_le r
    have h1 := sts_le f
    rw [List.length_cons]
    show _ + totF r ≤ _
    omega
theorem ins_tot (t : Int) : ∀ l : List Fq, (insF t l).length ≤ totF l
  | [] => Nat.le_refl _
  | f :: r => by
    have ih := ins_tot t r
    have e : insF t (f :: r) = insF t [f] ++ insF t r := ins_app t [f] r
    rw [e, List.length_append]
    show _ ≤ (stsF f).length + totF r
    have h2 : (insF t [f]).length ≤ (stsF f).length := by
      unfold insF
      rw [List.filter_cons]
      split
      · simp
      · simp
    omega
/-- Whether there are too many to be looked at. -/
def mnyF (l : List Fq) (most : Int) : Bool := decide (100 < l.length) || decide (most < (totF l : Int))
theorem mny_long {l : List Fq} {most : Int} (h : 100 < l.length) : mnyF l most = true := by unfold mnyF; rw [decide_eq_true h]; rfl
theorem mny_short {l : List Fq} {most : Int} (h : ¬ 100 < l.length) : mnyF l most = decide (most < (totF l : Int)) := by unfold mnyF; rw [decide_eq_false h]; rfl
theorem mny_no {l : List Fq} {most : Int} (h : mnyF l most = false) : l.length ≤ 100 ∧ (totF l : Int) ≤ most := by
  unfold mnyF at h
  rw [Bool.or_eq_false_iff, decide_eq_false_iff_not, decide_eq_false_iff_not] at h
  omega

/-! ### Calls started at a time -/
/-- The first departure. -/
def dpF (l : List Cl) : Int := (l.head?.getD (0, 0, 0, false, false)).2.2.1
theorem dp_at {l : List Cl} {x : Cl} (h : l[0]? = some x) : dpF l = x.2.2.1 := by
  unfold dpF
  rw [List.head?_eq_getElem?, h]
  rfl
/-- Whether a time, shifted as the first departure is to the start, is from 0 to MaxTime. -/
def inT (d st t : Int) : Bool := decide (0 ≤ t - d + st ∧ t - d + st ≤ 172800)
theorem inT_iff {d st t : Int} : inT d st t = true ↔ (0 ≤ t - d + st ∧ t - d + st ≤ 172800) := by unfold inT; exact decide_eq_true_iff
def fitX (d st : Int) (x : Cl) : Bool := inT d st x.2.1 && inT d st x.2.2.1
theorem fitX_arr {d st : Int} {x : Cl} (h : inT d st x.2.1 = false) : fitX d st x = false := by unfold fitX; rw [h]; rfl
theorem fitX_dep {d st : Int} {x : Cl} (h : inT d st x.2.2.1 = false) : fitX d st x = false := by unfold fitX; rw [h, Bool.and_false]
theorem fitX_yes {d st : Int} {x : Cl} (h : inT d st x.2.1 = true) (k : inT d st x.2.2.1 = true) : fitX d st x = true := by unfold fitX; rw [h, k]; rfl
/-- Whether the start and all times are from 0 to MaxTime. -/
def fitC (l : List Cl) (st : Int) : Bool := decide (0 ≤ st ∧ st ≤ 172800) && l.all (fitX (dpF l) st)
theorem fit_out {l : List Cl} {st : Int} (h : ¬ (0 ≤ st ∧ st ≤ 172800)) : fitC l st = false := by unfold fitC; rw [decide_eq_false h]; rfl
theorem fit_stop {l : List Cl} {st : Int} {k : Nat} {x : Cl} (h : l[k]? = some x) (hx : fitX (dpF l) st x = false) : fitC l st = false := by
  unfold fitC
  rw [show l.all (fitX (dpF l) st) = false from ?_, Bool.and_false]
  rw [List.all_eq_false]
  exact ⟨x, List.mem_iff_getElem?.2 ⟨k, h⟩, by rw [hx]; simp⟩
theorem fit_done {l : List Cl} {st : Int} (h : 0 ≤ st ∧ st ≤ 172800) (hx : ∀ (j : Nat) x, l[j]? = some x → fitX (dpF l) st x = true) : fitC l st = true := by
  unfold fitC
  rw [decide_eq_true h, Bool.true_and, List.all_eq_true]
  intro x hm
  obtain ⟨j, hj⟩ := List.mem_iff_getElem?.1 hm
  exact hx j x hj
theorem fit_is {l : List Cl} {st : Int} (h : fitC l st = true) : (0 ≤ st ∧ st ≤ 172800) ∧ ∀ x ∈ l, fitX (dpF l) st x = true := by
  unfold fitC at h
  rw [Bool.and_eq_true, decide_eq_true_iff, List.all_eq_true] at h
  exact h
/-- What fits at two starts fits at each between them. -/
theorem fit_between {l : List Cl} {a x b : Int} (h1 : fitC l a = true) (h2 : fitC l b = true) (ha : a ≤ x) (hb : x ≤ b) : fitC l x = true := by
  obtain ⟨r1, f1⟩ := fit_is h1
  obtain ⟨r2, f2⟩ := fit_is h2
  unfold fitC
  rw [decide_eq_true (by omega), Bool.true_and, List.all_eq_true]
  intro y hy
  have g1 := f1 y hy
  have g2 := f2 y hy
  unfold fitX at g1 g2 ⊢
  rw [Bool.and_eq_true, inT_iff, inT_iff] at g1 g2 ⊢
  omega
def runX (d st : Int) (x : Cl) : Cl := (x.1, x.2.1 - d + st, x.2.2.1 - d + st, x.2.2.2.1, x.2.2.2.2)
/-- The calls started. -/
def runC (l : List Cl) (st : Int) : List Cl := l.map (runX (dpF l) st)
theorem run_len (l : List Cl) (st : Int) : (runC l st).length = l.length := List.length_map _
theorem run_at' {l : List Cl} {st : Int} {k : Nat} {x : Cl} (h : l[k]? = some x) : (runC l st)[k]? = some (runX (dpF l) st x) := by unfold runC; rw [List.getElem?_map, h]; rfl
theorem run_snoc {l : List Cl} {st : Int} {k : Nat} {x : Cl} (h : l[k]? = some x) : (l.take (k + 1)).map (runX (dpF l) st) = (l.take k).map (runX (dpF l) st) ++ [runX (dpF l) st x] := by
  rw [take_at l k x h, List.map_append]
  rfl
/-- Shifted with wrapping around they are the same. -/
theorem sh_run {l : List Cl} {st : Int} (h : fitC l st = true) : shC (wrap64 (st - dpF l)) l = runC l st := by
  unfold shC runC
  refine List.map_congr_left fun x hx => ?_
  have g := (fit_is h).2 x hx
  unfold fitX at g
  rw [Bool.and_eq_true, inT_iff, inT_iff] at g
  have e1 : wrap64 (x.2.1 + wrap64 (st - dpF l)) = x.2.1 - dpF l + st := by unfold wrap64; omega
  have e2 : wrap64 (x.2.2.1 + wrap64 (st - dpF l)) = x.2.2.1 - dpF l + st := by unfold wrap64; omega
  unfold shX runX
  rw [e1, e2]
/-- What Calls answers. -/
def ansC (l : List Cl) (st : Int) : List Cl := if fitC l st then runC l st else []
def errC (l : List Cl) (st : Int) : Int := if l.length = 0 then 16 else if fitC l st then 0 else 10
theorem ans_no {l : List Cl} {st : Int} (h : fitC l st = false) : ansC l st = [] := by unfold ansC; rw [if_neg (by rw [h]; simp)]
theorem ans_yes {l : List Cl} {st : Int} (h : fitC l st = true) : ansC l st = runC l st := by unfold ansC; rw [if_pos h]
theorem ans_nil {l : List Cl} (st : Int) (h : l.length = 0) : ansC l st = [] := by
  obtain rfl := List.length_eq_zero_iff.1 h
  unfold ansC
  split <;> rfl
theorem err_none {l : List Cl} {st : Int} (h : l.length = 0) : errC l st = 16 := by unfold errC; rw [if_pos h]
theorem err_no {l : List Cl} {st : Int} (h : l.length ≠ 0) (hf : fitC l st = false) : errC l st = 10 := by unfold errC; rw [if_neg h, if_neg (by rw [hf]; simp)]
theorem err_yes {l : List Cl} {st : Int} (h : l.length ≠ 0) (hf : fitC l st = true) : errC l st = 0 := by unfold errC; rw [if_neg h, if_pos hf]
theorem ans_len {l : List Cl} {st : Int} : (ansC l st).length ≤ l.length := by
  unfold ansC
  split
  · exact Nat.le_of_eq (run_len l st)
  · exact Nat.zero_le _

/-! ### The first frequency that is not valid -/
/-- Whether two intervals have a time in common. -/
def ovlF (f g : Fq) : Bool := decide (f.2.1 < g.2.2.1) && decide (g.2.1 < f.2.2.1)
theorem ovl_a {f g : Fq} (h : ¬ f.2.1 < g.2.2.1) : ovlF f g = false := by unfold ovlF; rw [decide_eq_false h]; rfl
theorem ovl_b {f g : Fq} (h : ¬ g.2.1 < f.2.2.1) : ovlF f g = false := by unfold ovlF; rw [decide_eq_false h, Bool.and_false]
theorem ovl_yes {f g : Fq} (h : f.2.1 < g.2.2.1) (k : g.2.1 < f.2.2.1) : ovlF f g = true := by unfold ovlF; rw [decide_eq_true h, decide_eq_true k]; rfl
/-- Whether one of them is of the same trip and has a time in common. -/
def metF (f g : Fq) : Bool := decide (f.1 = g.1) && ovlF f g
theorem met_other {f g : Fq} (h : f.1 ≠ g.1) : metF f g = false := by unfold metF; rw [decide_eq_false h]; rfl
theorem met_same {f g : Fq} (h : f.1 = g.1) : metF f g = ovlF f g := by unfold metF; rw [decide_eq_true h, Bool.true_and]
def hitF (seen : List Fq) (f : Fq) : Bool := seen.any (metF f)
theorem hit_yes {l : List Fq} {f g : Fq} {j : Nat} (h : l[j]? = some g) (hm : metF f g = true) : hitF l f = true := by
  unfold hitF
  rw [List.any_eq_true]
  exact ⟨g, List.mem_iff_getElem?.2 ⟨j, h⟩, hm⟩
theorem hit_no {l : List Fq} {f : Fq} (h : ∀ (j : Nat) g, l[j]? = some g → metF f g = false) : hitF l f = false := by
  unfold hitF
  rw [List.any_eq_false]
  intro g hg
  obtain ⟨j, hj⟩ := List.mem_iff_getElem?.1 hg
  rw [h j g hj]
  simp
theorem hit_next {l : List Fq} {f g : Fq} {j : Nat} (h : l[j]? = some g) : hitF (l.take (j + 1)) f = (hitF (l.take j) f || metF f g) := by
  unfold hitF
  rw [take_at l j g h, List.any_append]
  simp
/-- The last start. -/
def endF (f : Fq) : Int := nthF f (cntF f - 1)
theorem end_at {f : Fq} (h : sndF f = true) : (lstF f)[(lstF f).length - 1]? = some (endF f) := by
  rw [lst_len]
  exact lst_at (by have := cnt_pos h; omega)
theorem first_at {f : Fq} (h : sndF f = true) : (lstF f)[0]? = some f.2.1 := by
  rw [lst_at (cnt_pos h), nth_zero]
/-- Whether the calls fit at all starts. -/
def allF (l : List Cl) (f : Fq) : Bool := fitC l f.2.1 && fitC l (endF f)
theorem allF_first {l : List Cl} {f : Fq} (h : fitC l f.2.1 = false) : allF l f = false := by unfold allF; rw [h]; rfl
theorem allF_last {l : List Cl} {f : Fq} (h : fitC l f.2.1 = true) : allF l f = fitC l (endF f) := by unfold allF; rw [h]; rfl
/-- The calls of the trip that a frequency names. -/
def clsF (ts : List (List Cl)) (f : Fq) : List Cl := (ts[f.1.toNat]?).getD []
theorem cls_at {ts : List (List Cl)} {f : Fq} {c : List Cl} {n : Nat} (hn : f.1 = (n : Int)) (h : ts[n]? = some c) : clsF ts f = c := by
  unfold clsF
  rw [hn, Int.toNat_natCast, h]
  rfl
/-- The error of a frequency behind others. -/
def badF (ts : List (List Cl)) (seen : List Fq) (f : Fq) : Int :=
  if f.1 < 0 ∨ (ts.length : Int) ≤ f.1 then 9 else if sndF f = false ∨ allF (clsF ts f) f = false then 10 else if 256 < (insF f.1 (seen ++ [f])).length then 17 else if hitF seen f then 8 else 0
section
variable {ts : List (List Cl)} {seen : List Fq} {f : Fq}
theorem badF_ref (h : f.1 < 0 ∨ (ts.length : Int) ≤ f.1) : badF ts seen f = 9 := by unfold badF; rw [if_pos h]
theorem badF_sound (h1 : ¬ f.1 < 0) (h2 : ¬ (ts.length : Int) ≤ f.1) (h : sndF f = false) : badF ts seen f = 10 := by unfold badF; rw [if_neg (by omega), if_pos (.inl h)]
theorem badF_time (h1 : ¬ f.1 < 0) (h2 : ¬ (ts.length : Int) ≤ f.1) (h : allF (clsF ts f) f = false) : badF ts seen f = 10 := by
  unfold badF
  rw [if_neg (by omega), if_pos (.inr h)]
theorem badF_many (h1 : ¬ f.1 < 0) (h2 : ¬ (ts.length : Int) ≤ f.1) (h3 : sndF f = true) (h4 : allF (clsF ts f) f = true) (h : 256 < (insF f.1 (seen ++ [f])).length) : badF ts seen f = 17 := by
  unfold badF
  rw [if_neg (by omega), if_neg (by rw [h3, h4]; simp), if_pos h]
theorem badF_met (h1 : ¬ f.1 < 0) (h2 : ¬ (ts.length : Int) ≤ f.1) (h3 : sndF f = true) (h4 : allF (clsF ts f) f = true) (h5 : ¬ 256 < (insF f.1 (seen ++ [f])).length) (h : hitF seen f = true) : badF ts seen f = 8 := by
  unfold badF
  rw [if_neg (by omega), if_neg (by rw [h3, h4]; simp), if_neg h5, if_pos h]
theorem badF_none (h1 : ¬ f.1 < 0) (h2 : ¬ (ts.length : Int) ≤ f.1) (h3 : sndF f = true) (h4 : allF (clsF ts f) f = true) (h5 : ¬ 256 < (insF f.1 (seen ++ [f])).length) (h : hitF seen f = false) : badF ts seen f = 0 := by
  unfold badF
  rw [if_neg (by omega), if_neg (by rw [h3, h4]; simp), if_neg h5, if_neg (by rw [h]; simp)]
theorem badF_good (h : badF ts seen f = 0) : (0 ≤ f.1 ∧ f.1 < (ts.length : Int)) ∧ sndF f = true ∧ allF (clsF ts f) f = true ∧ (insF f.1 (seen ++ [f])).length ≤ 256 ∧ hitF seen f = false := by
  unfold badF at h
  split at h
  · omega
  split at h
  · omega
  next h2 =>
    split at h
    · omega
    split at h
    · omega
    · next h3 h4 =>
      rw [not_or, Bool.not_eq_false, Bool.not_eq_false] at h2
      exact ⟨by omega, h2.1, h2.2, by omega, Bool.eq_false_iff.2 h4⟩
end
/-- What Check answers. -/
def chkF (ts : List (List Cl)) (l : List Fq) : Int × Int := if 64 < l.length then (0, 5) else fbF (badF ts) (fun f => f) [] 0 l
section
variable {ts : List (List Cl)} {l : List Fq} {q : Int × Int} {k : Nat} {f : Fq}
theorem chkF_many (h : 64 < l.length) : chkF ts l = (0, 5) := by unfold chkF; rw [if_pos h]
theorem chkF_start (h : ¬ 64 < l.length) : chkF ts l = fbF (badF ts) (fun f => f) ((l.take 0).map fun f => f) 0 (l.drop 0) := by unfold chkF; rw [if_neg h]; rfl
theorem same_map (l : List Fq) : (l.map fun f => f) = l := List.map_id' l
theorem ck_stopF (hr : q = fbF (badF ts) (fun f => f) ((l.take k).map fun f => f) k (l.drop k)) (h : l[k]? = some f) {e : Int} (hb : badF ts (l.take k) f = e) (he : e ≠ 0) : q = ((k : Int), e) :=
  fb_stop hr h (by rw [same_map]; exact hb) he
theorem ck_nextF (hr : q = fbF (badF ts) (fun f => f) ((l.take k).map fun f => f) k (l.drop k)) (h : l[k]? = some f) (hb : badF ts (l.take k) f = 0) : q = fbF (badF ts) (fun f => f) ((l.take (k + 1)).map fun f => f) (k + 1) (l.drop (k + 1)) :=
  fb_next hr h (by rw [same_map]; exact hb)
theorem ck_doneF (hr : q = fbF (badF ts) (fun f => f) ((l.take k).map fun f => f) k (l.drop k)) (h : l.length ≤ k) : q = (0, 0) := fb_done hr h
end

/-! ### What follows for accepted frequencies -/
theorem fb_acc {κ α : Type} {bad : List κ → α → Int} {key : α → κ} : ∀ (l : List α) (seen : List κ) (k : Nat), (fbF bad key seen k l).2 = 0 → ∀ (j : Nat) x, l[j]? = some x → bad (seen ++ (l.take j).map key) x = 0
  | [], _, _, _, j, x, h => by simp at h
  | y :: r, seen, k, hz, j, x, h => by
    unfold fbF at hz
    by_cases hb : bad seen y = 0
    · rw [if_pos hb] at hz
      cases j with
      | zero =>
        simp at h
        subst h
        simpa using hb
      | succ j =>
        rw [List.getElem?_cons_succ] at h
        have := fb_acc r (seen ++ [key y]) (k + 1) hz j x h
        rw [List.append_assoc] at this
        exact this
    · rw [if_neg hb] at hz
      exact absurd hz hb
section
variable {ts : List (List Cl)} {l : List Fq}
theorem acc_good (h : (chkF ts l).2 = 0) : ∀ (j : Nat) f, l[j]? = some f → badF ts (l.take j) f = 0 := by
  unfold chkF at h
  split at h
  · cases h
  · intro j f hf
    have := fb_acc l [] 0 h j f hf
    rw [List.nil_append, same_map] at this
    exact this
theorem acc_few (h : (chkF ts l).2 = 0) : l.length ≤ 64 := by
  unfold chkF at h
  split at h
  · cases h
  · omega
theorem acc_len (h : (chkF ts l).2 = 0) (t : Int) : ∀ k, k ≤ l.length → (insF t (l.take k)).length ≤ 256
  | 0, _ => Nat.zero_le _
  | k + 1, hk => by
    obtain ⟨f, hf⟩ := at_lt (show k < l.length by omega)
    have ih := acc_len h t k (by omega)
    by_cases ht : f.1 = t
    · have g := (badF_good (acc_good h k f hf)).2.2.2.1
      rw [ht, ← take_at l k f hf] at g
      exact g
    · rw [ins_no hf ht]
      exact ih
theorem acc_most (h : (chkF ts l).2 = 0) (t : Int) : (insF t l).length ≤ 256 := by
  have := acc_len h t l.length (Nat.le_refl _)
  rw [List.take_length] at this
  exact this
theorem acc_apart (h : (chkF ts l).2 = 0) (t : Int) : ∀ k, k ≤ l.length → (insF t (l.take k)).Nodup
  | 0, _ => List.nodup_nil
  | k + 1, hk => by
    obtain ⟨f, hf⟩ := at_lt (show k < l.length by omega)
    have ih := acc_apart h t k (by omega)
    by_cases ht : f.1 = t
    · have g := (badF_good (acc_good h k f hf)).2.2.2.2
      rw [ins_yes hf ht, List.nodup_append]
      refine ⟨ih, sts_nodup f, fun x hx y hy => ?_⟩
      rintro rfl
      obtain ⟨e, he, het, hxe⟩ := ins_mem.1 hx
      obtain ⟨j, hj⟩ := List.mem_iff_getElem?.1 he
      have a := sts_in hxe
      have b := sts_in hy
      have : hitF (l.take k) f = true := hit_yes hj (by rw [met_same (by omega)]; exact ovl_yes (by omega) (by omega))
      rw [g] at this
      cases this
    · rw [ins_no hf ht]
      exact ih
theorem acc_nodup (h : (chkF ts l).2 = 0) (t : Int) : (insF t l).Nodup := by
  have := acc_apart h t l.length (Nat.le_refl _)
  rw [List.take_length] at this
  exact this
theorem acc_rep (h : (chkF ts l).2 = 0) (t : Int) : decide (0 < (insF t l).length) = repF t l := by
  cases hr : repF t l with
  | true =>
    unfold repF at hr
    obtain ⟨f, hf, ht⟩ := List.any_eq_true.1 hr
    obtain ⟨j, hj⟩ := List.mem_iff_getElem?.1 hf
    have hs := (badF_good (acc_good h j f hj)).2.1
    have : f.2.1 ∈ insF t l := ins_mem.2 ⟨f, hf, of_decide_eq_true ht, by
      rw [sts_yes hs]
      exact List.mem_iff_getElem?.2 ⟨0, first_at hs⟩⟩
    exact decide_eq_true (List.length_pos_of_mem this)
  | false =>
    refine decide_eq_false fun hp => ?_
    obtain ⟨x, hx⟩ := List.exists_mem_of_length_pos hp
    obtain ⟨f, hf, ht, _⟩ := ins_mem.1 hx
    unfold repF at hr
    rw [List.any_eq_false] at hr
    exact hr f hf (decide_eq_true ht)
theorem acc_fits (h : (chkF ts l).2 = 0) {n : Nat} {c : List Cl} (hc : ts[n]? = some c) {x : Int} (hx : x ∈ insF (n : Int) l) : fitC c x = true := by
  obtain ⟨f, hf, ht, hs⟩ := ins_mem.1 hx
  obtain ⟨j, hj⟩ := List.mem_iff_getElem?.1 hf
  have g := (badF_good (acc_good h j f hj)).2.2.1
  rw [cls_at ht hc] at g
  unfold allF at g
  rw [Bool.and_eq_true] at g
  obtain ⟨s1, k, hk, rfl⟩ := sts_mem hs
  exact fit_between g.1 g.2 (nth_low s1 k) (nth_up s1 (by omega))
end
end Go.Proofs.Ytkballjadkhepaa
