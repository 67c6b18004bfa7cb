/-
  Clone of the program's timetables: a timetable with the same elements; nothing that existed before the call has changed behind it. Condition: few elements.
-/
import Derived.Test.YtkhalnjgbdpfhaaGreatTtG
import Derived.Test.YtkhalnjgbdpfhaaGreatTtQ
import Derived.Test.YtkhalnjgbdpfhaaGreatDrH
namespace Go.Proofs.YtkhalnjgbdpfhaaGreat
open Go.RowKit

/-- The zero timetable in a box. -/
abbrev zbT : Obj := .cells #[.slice none 0 0, .slice none 0 0, .slice none 0 0, .slice none 0 0, .slice none 0 0, .slice none 0 0, .slice none 0 0, .slice none 0 0, .slice none 0 0, .slice none 0 0, .int .i64 0, .int .i64 0, .int .i64 0] 35 (0, 0)
/-- Block F holds the values vs, block R the zero timetable; the blocks of ps hold what they are told to hold; nothing of w0 has changed. -/
def CSt (w0 : World) (F R : Nat) (vs : List Value) (ps : List (Nat × Obj)) (W : World) : Prop :=
  F < R ∧ W.heap[F]? = some (.cells vs.toArray 35 (0, 0)) ∧ W.heap[R]? = some zbT ∧ (∀ p ∈ ps, R < p.1 ∧ W.heap[p.1]? = some p.2) ∧ Below w0.heap.size w0 W
section
variable {w0 W W' : World} {F R : Nat} {vs : List Value} {ps : List (Nat × Obj)}
theorem CSt.base (h : CSt w0 F R vs ps W) : Below w0.heap.size w0 W := h.2.2.2.2
theorem CSt.lt (h : CSt w0 F R vs ps W) : R < W.heap.size := (Array.getElem?_eq_some_iff.1 h.2.2.1).1
theorem CSt.here (h : CSt w0 F R vs ps W) {p : Nat × Obj} (hp : p ∈ ps) : W.heap[p.1]? = some p.2 := (h.2.2.2.1 p hp).2
theorem CSt.below (h : CSt w0 F R vs ps W) {p : Nat × Obj} (hp : p ∈ ps) : p.1 < W.heap.size := (Array.getElem?_eq_some_iff.1 (h.here hp)).1
theorem CSt.on (h : CSt w0 F R vs ps W) (b : Below W.heap.size W W') : CSt w0 F R vs ps W' :=
  ⟨h.1, (b.block _ (Nat.lt_trans h.1 h.lt)).trans h.2.1, (b.block _ h.lt).trans h.2.2.1, fun p hp => ⟨(h.2.2.2.1 p hp).1, (b.block _ (h.below hp)).trans (h.here hp)⟩, h.base.trans (b.mono h.base.size)⟩
theorem CSt.add (h : CSt w0 F R vs ps W) {p : Nat × Obj} (hp : R < p.1) (hq : W.heap[p.1]? = some p.2) : CSt w0 F R vs (p :: ps) W :=
  ⟨h.1, h.2.1, h.2.2.1, fun q hq' => by
    rcases List.mem_cons.1 hq' with rfl | hm
    · exact ⟨hp, hq⟩
    · exact h.2.2.2.1 q hm, h.base⟩
theorem CSt.cell (h : CSt w0 F R vs ps W) {i : Nat} {v : Value} (hv : vs[i]? = some v) : W.cell? ⟨F, i, none⟩ = some v ∧ W.frozen? ⟨F, i, none⟩ = false :=
  ⟨by rw [cell_of_row _ _ _ _ _ _ h.2.1]; simpa using hv, frozen_of_row _ _ _ _ _ h.2.1⟩
theorem CSt.put (h : CSt w0 F R vs ps W) (hF : w0.heap.size ≤ F) (i : Nat) (u : Value) : CSt w0 F R (vs.set i u) ps (W.setCell ⟨F, i, none⟩ u) := by
  have hFR := h.1
  refine ⟨hFR, ?_, ?_, fun p hp => ⟨(h.2.2.2.1 p hp).1, ?_⟩, h.base.setCell hF u⟩
  · rw [heap_setCell_same _ _ _ _ _ _ h.2.1, List.setIfInBounds_toArray]
  · rw [RowKit.Below.heap_setCell _ _ _ R (by show R ≠ F; omega)]
    exact h.2.2.1
  · rw [RowKit.Below.heap_setCell _ _ _ p.1 (by have := (h.2.2.2.1 p hp).1; show p.1 ≠ F; omega)]
    exact h.here hp
/-- A store into a block that is none of these. -/
theorem CSt.far (h : CSt w0 F R vs ps W) {g : Nat} (hg : w0.heap.size ≤ g) (hR : R < g) (hp : ∀ p ∈ ps, p.1 ≠ g) (i : Nat) (u : Value) : CSt w0 F R vs ps (W.setCell ⟨g, i, none⟩ u) := by
  have hFR := h.1
  refine ⟨hFR, ?_, ?_, fun p hq => ⟨(h.2.2.2.1 p hq).1, ?_⟩, h.base.setCell hg u⟩
  · rw [RowKit.Below.heap_setCell _ _ _ F (by show F ≠ g; omega)]
    exact h.2.1
  · rw [RowKit.Below.heap_setCell _ _ _ R (by show R ≠ g; omega)]
    exact h.2.2.1
  · rw [RowKit.Below.heap_setCell _ _ _ p.1 (hp p hq)]
    exact h.here hq
/-- Block R stored into. -/
theorem CSt.last (h : CSt w0 F R vs ps W) (cs : Array Value) {p : Nat × Obj} (hp : p ∈ ps) : (W.setRow R cs).heap[p.1]? = some p.2 := by
  rw [setRow_other W R p.1 cs (by have := (h.2.2.2.1 p hp).1; omega)]
  exact h.here hp
theorem CSt.end_ (h : CSt w0 F R vs ps W) (hF : w0.heap.size ≤ F) (cs : Array Value) : Below w0.heap.size w0 (W.setRow R cs) :=
  h.base.trans ⟨rfl, rfl, rfl, by simp [World.setRow], fun k hk => setRow_other W R k cs (by have := h.1; omega)⟩
end
/-- The trip's calls lie in a row of their own that is among ps. -/
def OwT (ps : List (Nat × Obj)) (x : Tp) : Prop := ∃ g, x.2.2.2.2.1 = .slice (some ⟨g, 0, none⟩) x.2.2.2.2.2.length x.2.2.2.2.2.length ∧ (g, Obj.cells (fl cc x.2.2.2.2.2).toArray 74 (0, 0)) ∈ ps
/-- The trips of T, some of them with calls of their own. -/
def MixT (l : List Tp) (ps : List (Nat × Obj)) (L : List Tp) : Prop := L.map noV = l.map noV ∧ ∀ x ∈ L, x ∈ l ∨ OwT ps x
section
variable {l L : List Tp} {ps qs : List (Nat × Obj)}
theorem MixT.mono (h : MixT l ps L) (hs : ∀ p ∈ ps, p ∈ qs) : MixT l qs L := ⟨h.1, fun x hx => (h.2 x hx).imp id fun ⟨g, e, hm⟩ => ⟨g, e, hs _ hm⟩⟩
theorem MixT.len (h : MixT l ps L) : L.length = l.length := by have := congrArg List.length h.1; simpa using this
theorem MixT.cl (h : MixT l ps L) {x : Tp} (hx : x ∈ L) : ∃ y ∈ l, x.2.2.2.2.2 = y.2.2.2.2.2 := by
  have hm : noV x ∈ L.map noV := List.mem_map_of_mem hx
  rw [h.1] at hm
  obtain ⟨y, hy, e⟩ := List.mem_map.1 hm
  refine ⟨y, hy, ?_⟩
  have := congrArg (fun z : List UInt8 × Int × Int × Bool × List Cl => z.2.2.2.2) e
  exact this.symm
theorem MixT.ok (h : MixT l ps L) {W : World} {v : Value} (hl : LstTp W v l) (hp : ∀ p ∈ ps, W.heap[p.1]? = some p.2) : ∀ x ∈ L, OkT W x := by
  intro x hx
  rcases h.2 x hx with hm | ⟨g, e, hm⟩
  · exact hl.2 x hm
  · obtain ⟨y, hy, ec⟩ := h.cl hx
    obtain ⟨-, h2, h3⟩ := hl.2 y hy
    refine ⟨?_, by rw [ec]; exact h2, by rw [ec]; exact h3⟩
    rw [e]
    exact lstG_whole W (hp _ hm)
theorem MixT.put (h : MixT l ps L) {k g : Nat} {id : List UInt8} {r ca : Int} {f : Bool} {v : Value} {cl : List Cl} (hk : L[k]? = some (id, r, ca, f, v, cl)) :
    MixT l ((g, Obj.cells (fl cc cl).toArray 74 (0, 0)) :: ps) (L.set k (id, r, ca, f, .slice (some ⟨g, 0, none⟩) cl.length cl.length, cl)) := by
  constructor
  · rw [← h.1, List.map_set]
    apply List.ext_getElem?
    intro j
    rw [List.getElem?_set]
    by_cases e : k = j
    · subst e
      have hlt := (List.getElem?_eq_some_iff.1 hk).1
      rw [if_pos rfl, if_pos (by simpa using hlt), List.getElem?_map, hk]
      rfl
    · rw [if_neg e]
  · intro x hx
    rcases List.mem_or_eq_of_mem_set hx with hm | rfl
    · exact ((h.mono (qs := (g, Obj.cells (fl cc cl).toArray 74 (0, 0)) :: ps) (fun p hp => List.mem_cons_of_mem _ hp)).2 x hm)
    · exact .inr ⟨g, rfl, List.mem_cons_self⟩
theorem MixT.start : MixT l ps l := ⟨rfl, fun _ h => .inl h⟩
end
theorem te_set (x : Tp) (u : Value) : te (x.1, x.2.1, x.2.2.1, x.2.2.2.1, u, x.2.2.2.2.2) = (te x).set 4 u := rfl
def at10 (g0 g1 g2 g3 g4 g5 g6 g7 g8 g9 : Nat) : Nat → Option Addr
  | 0 => some ⟨g0, 0, none⟩
  | 1 => some ⟨g1, 0, none⟩
  | 2 => some ⟨g2, 0, none⟩
  | 3 => some ⟨g3, 0, none⟩
  | 4 => some ⟨g4, 0, none⟩
  | 5 => some ⟨g5, 0, none⟩
  | 6 => some ⟨g6, 0, none⟩
  | 7 => some ⟨g7, 0, none⟩
  | 8 => some ⟨g8, 0, none⟩
  | 9 => some ⟨g9, 0, none⟩
  | _ => none
def ca10 (n0 n1 n2 n3 n4 n5 n6 n7 n8 n9 : Nat) : Nat → Nat
  | 0 => n0
  | 1 => n1
  | 2 => n2
  | 3 => n3
  | 4 => n4
  | 5 => n5
  | 6 => n6
  | 7 => n7
  | 8 => n8
  | 9 => n9
  | _ => 0
theorem cl_end (a : Nat → Option Addr) (c : Nat → Nat) (T : Tt) (w W : World) (h : TtL w a c T) (b : Below w.heap.size w W) (Lr : List Tp) (ps : List (Nat × Obj)) (m : MixT T.tr ps Lr) (hp : ∀ p ∈ ps, W.heap[p.1]? = some p.2) (g0 g1 g2 g3 g4 g5 g6 g7 g8 g9 : Nat)
    (r0 : W.heap[g0]? = some (Obj.cells (fl S13.se T.st).toArray 51 (0, 0))) (r1 : W.heap[g1]? = some (Obj.cells (fl S15.re T.ro).toArray 63 (0, 0))) (r2 : W.heap[g2]? = some (Obj.cells (fl S14.ce T.ca).toArray 67 (0, 0))) (r3 : W.heap[g3]? = some (Obj.cells (fl S14.xe T.ex).toArray 70 (0, 0))) (r4 : W.heap[g4]? = some (Obj.cells (fl te Lr).toArray 49 (0, 0))) (r5 : W.heap[g5]? = some (Obj.cells (fl fe T.fr).toArray 77 (0, 0))) (r6 : W.heap[g6]? = some (Obj.cells (fl S19.hh T.th).toArray 80 (0, 0))) (r7 : W.heap[g7]? = some (Obj.cells (fl S19.gg T.gu).toArray 83 (0, 0))) (r8 : W.heap[g8]? = some (Obj.cells (fl S20.fe T.pa).toArray 53 (0, 0))) (r9 : W.heap[g9]? = some (Obj.cells (fl S21.pdE T.pr).toArray 87 (0, 0))) :
    ∃ (a' : Nat → Option Addr) (c' : Nat → Nat) (U : Tt), Ending.returned (.agg #[.slice (some ⟨g0, 0, none⟩) T.st.length T.st.length, .slice (some ⟨g1, 0, none⟩) T.ro.length T.ro.length, .slice (some ⟨g2, 0, none⟩) T.ca.length T.ca.length, .slice (some ⟨g3, 0, none⟩) T.ex.length T.ex.length, .slice (some ⟨g4, 0, none⟩) T.tr.length T.tr.length, .slice (some ⟨g5, 0, none⟩) T.fr.length T.fr.length, .slice (some ⟨g6, 0, none⟩) T.th.length T.th.length, .slice (some ⟨g7, 0, none⟩) T.gu.length T.gu.length, .slice (some ⟨g8, 0, none⟩) T.pa.length T.pa.length, .slice (some ⟨g9, 0, none⟩) T.pr.length T.pr.length, .int .i64 T.di, .int .i64 T.wi, .int .i64 T.cp]) = Ending.returned (ttV a' c' U) ∧ CopT T U ∧ TtL W a' c' U ∧ Below w.heap.size w W := by
  have hl := m.len
  have hh := h.below b
  refine ⟨at10 g0 g1 g2 g3 g4 g5 g6 g7 g8 g9, ca10 T.st.length T.ro.length T.ca.length T.ex.length Lr.length T.fr.length T.th.length T.gu.length T.pa.length T.pr.length, ⟨T.st, T.ro, T.ca, T.ex, Lr, T.fr, T.th, T.gu, T.pa, T.pr, T.di, T.wi, T.cp⟩, ?_, ⟨rfl, rfl, rfl, rfl, m.1, rfl, rfl, rfl, rfl, rfl, rfl, rfl, rfl⟩, ?_, b⟩
  · rw [← hl]; rfl
  · exact ⟨lstG_whole W r0, lstG_whole W r1, lstG_whole W r2, lstG_whole W r3, ⟨lstG_whole W r4, m.ok hh.tr hp⟩, lstG_whole W r5, lstG_whole W r6, lstG_whole W r7, lstG_whole W r8, lstG_whole W r9⟩
theorem one13 (x0 x1 x2 x3 x4 x5 x6 x7 x8 x9 : Option Addr) (n0 n1 n2 n3 n4 n5 n6 n7 n8 n9 m0 m1 m2 m3 m4 m5 m6 m7 m8 m9 : Nat) (d wi q : Int) : (#[.slice x0 n0 m0, .slice x1 n1 m1, .slice x2 n2 m2, .slice x3 n3 m3, .slice x4 n4 m4, .slice x5 n5 m5, .slice x6 n6 m6, .slice x7 n7 m7, .slice x8 n8 m8, .slice x9 n9 m9, .int .i64 d, .int .i64 wi, .int .i64 q] : Array Value).all (·.oneCell') = true := by simp [Value.oneCell']
theorem storeT {P : Program} {md : Region.Mode} {ops : Array Oper} {Q : Exit → Act → World → Prop} {S : World → Prop} {T : List Sk} {fuel : Nat} {l : List Bool} {a : Act} {w : World} {i : Nat} {oi : Oper} {w' : World} (l' : List Bool) (hl : l.set i true = l') (hr : readyT T l = [i]) (hi : ops[i]? = some oi) (hd : oi.dst = none) (wi : Region.wanted oi (yielded ops a.tmps) = true)
    (hrun : (execOp a.eval oi).run P w = .ok .skip w') (hS : S w') (h : wpT P md ops Q S T fuel l' a w') : wpT P md ops Q S T (fuel + 1) l a w :=
  oneT l' hl hr hi wi fun _ hK => by
    unfold Oper.wp
    rw [hrun, Oper.upon_skip, hd]
    exact hK.out _ _ hS fun _ => h
theorem info_tt : (Tryz.prog.info? 35).map (·.size) = some 13 := by kernel_rfl
def skCl : List Sk := [([], some 30, [1]), ([0], some 31, [30]), ([], some 32, [3]), ([], some 33, [1]), ([3], some 34, [33]), ([], some 35, [3]), ([4, 5], some 36, [34, 35]), ([6], some 37, [36]), ([7], some 38, [37]), ([8], some 39, [38]), ([1, 2, 0, 1, 2, 3, 4, 5, 6, 7, 8, 9], some 40, [31, 32]), ([10, 0, 1, 2, 3, 4, 5, 6, 7, 8, 9], some 41, [40]), ([11, 9, 9, 0, 1, 2, 3, 4, 5, 6, 7, 8, 9], none, [41, 39])]
set_option maxRecDepth 100000 in
set_option maxHeartbeats 8000000 in
theorem clC : ClC := by
  intro a c T w hf _ _ h
  obtain ⟨⟨f0, f1, f2, f3, f4, f5, f6, f7, f8, f9⟩, hts0⟩ := few_iff.1 hf
  have HC := Lib.hid hts0
  obtain ⟨w7, hw7⟩ : ∃ W, w.alloc (boxTt a c T) = W := ⟨_, rfl⟩
  obtain ⟨b7, s7, c7⟩ := box_tt hw7
  obtain ⟨w8, hw8⟩ : ∃ W, w7.alloc zbT = W := ⟨_, rfl⟩
  have b8 : Below w7.heap.size w7 w8 := by rw [← hw8]; exact (Below.refl _ _).alloc (Nat.le_refl _) _
  have y8 : w8.heap[w7.heap.size]? = some zbT := by rw [← hw8]; exact heap_alloc_new w7 _
  have H := Lib.hid h
  have S : Hid (CSt w w.heap.size w7.heap.size [.slice (a 0) T.st.length (c 0), .slice (a 1) T.ro.length (c 1), .slice (a 2) T.ca.length (c 2), .slice (a 3) T.ex.length (c 3), .slice (a 4) T.tr.length (c 4), .slice (a 5) T.fr.length (c 5), .slice (a 6) T.th.length (c 6), .slice (a 7) T.gu.length (c 7), .slice (a 8) T.pa.length (c 8), .slice (a 9) T.pr.length (c 9), .int .i64 T.di, .int .i64 T.wi, .int .i64 T.cp] [] w8) := Lib.hid ⟨s7, (b8.block _ s7).trans c7, y8, fun p hp => (by cases hp), b7.trans (b8.mono b7.size)⟩
  clear b7 c7 b8 y8 s7 hf h hts0
  go_enter Tryz.func10, Tryz.ntmps10
  have C := Lib.hid (cpst_any (.slice (a 0) T.st.length (c 0)) T.st (by omega) w8 (H.out.below S.out.base).st)
  have p := (S.out.cell (i := 0) (v := .slice (a 0) T.st.length (c 0)) rfl).1
  go_wp2_with fail
  refine C.out.mono ?_
  rintro e w9 ⟨g0, rfl, hg, hr, b⟩
  replace S := Lib.hid ((S.out.on b).add (p := (g0, Obj.cells (fl S13.se T.st).toArray 51 (0, 0))) (Nat.lt_of_lt_of_le S.out.lt hg) hr)
  obtain ⟨o1, o2⟩ := S.out.cell (i := 0) (v := .slice (a 0) T.st.length (c 0)) rfl
  obtain ⟨w10, hm⟩ : ∃ X, w9.setCell ⟨w.heap.size, 0, none⟩ (.slice (some ⟨g0, 0, none⟩) T.st.length T.st.length) = X := ⟨_, rfl⟩
  replace S : Hid (CSt w w.heap.size w7.heap.size [.slice (some ⟨g0, 0, none⟩) T.st.length T.st.length, .slice (a 1) T.ro.length (c 1), .slice (a 2) T.ca.length (c 2), .slice (a 3) T.ex.length (c 3), .slice (a 4) T.tr.length (c 4), .slice (a 5) T.fr.length (c 5), .slice (a 6) T.th.length (c 6), .slice (a 7) T.gu.length (c 7), .slice (a 8) T.pa.length (c 8), .slice (a 9) T.pr.length (c 9), .int .i64 T.di, .int .i64 T.wi, .int .i64 T.cp] ((g0, Obj.cells (fl S13.se T.st).toArray 51 (0, 0)) :: []) w10) := Lib.hid (by rw [← hm]; exact S.out.put (Nat.le_refl _) 0 _)
  clear C p hr b hg
  have C := Lib.hid (cpro_any (.slice (a 1) T.ro.length (c 1)) T.ro (by omega) w10 (H.out.below S.out.base).ro)
  have p := (S.out.cell (i := 1) (v := .slice (a 1) T.ro.length (c 1)) rfl).1
  go_wp2_with fail
  refine C.out.mono ?_
  rintro e w11 ⟨g1, rfl, hg, hr, b⟩
  clear o1 o2 hm
  replace S := Lib.hid ((S.out.on b).add (p := (g1, Obj.cells (fl S15.re T.ro).toArray 63 (0, 0))) (Nat.lt_of_lt_of_le S.out.lt hg) hr)
  obtain ⟨o1, o2⟩ := S.out.cell (i := 1) (v := .slice (a 1) T.ro.length (c 1)) rfl
  obtain ⟨w12, hm⟩ : ∃ X, w11.setCell ⟨w.heap.size, 1, none⟩ (.slice (some ⟨g1, 0, none⟩) T.ro.length T.ro.length) = X := ⟨_, rfl⟩
  replace S : Hid (CSt w w.heap.size w7.heap.size [.slice (some ⟨g0, 0, none⟩) T.st.length T.st.length, .slice (some ⟨g1, 0, none⟩) T.ro.length T.ro.length, .slice (a 2) T.ca.length (c 2), .slice (a 3) T.ex.length (c 3), .slice (a 4) T.tr.length (c 4), .slice (a 5) T.fr.length (c 5), .slice (a 6) T.th.length (c 6), .slice (a 7) T.gu.length (c 7), .slice (a 8) T.pa.length (c 8), .slice (a 9) T.pr.length (c 9), .int .i64 T.di, .int .i64 T.wi, .int .i64 T.cp] ((g1, Obj.cells (fl S15.re T.ro).toArray 63 (0, 0)) :: (g0, Obj.cells (fl S13.se T.st).toArray 51 (0, 0)) :: []) w12) := Lib.hid (by rw [← hm]; exact S.out.put (Nat.le_refl _) 1 _)
  clear C p hr b hg
  have C := Lib.hid (cpca_any (.slice (a 2) T.ca.length (c 2)) T.ca (by omega) w12 (H.out.below S.out.base).ca)
  have p := (S.out.cell (i := 2) (v := .slice (a 2) T.ca.length (c 2)) rfl).1
  go_wp2_with fail
  refine C.out.mono ?_
  rintro e w13 ⟨g2, rfl, hg, hr, b⟩
  clear o1 o2 hm
  replace S := Lib.hid ((S.out.on b).add (p := (g2, Obj.cells (fl S14.ce T.ca).toArray 67 (0, 0))) (Nat.lt_of_lt_of_le S.out.lt hg) hr)
  obtain ⟨o1, o2⟩ := S.out.cell (i := 2) (v := .slice (a 2) T.ca.length (c 2)) rfl
  obtain ⟨w14, hm⟩ : ∃ X, w13.setCell ⟨w.heap.size, 2, none⟩ (.slice (some ⟨g2, 0, none⟩) T.ca.length T.ca.length) = X := ⟨_, rfl⟩
  replace S : Hid (CSt w w.heap.size w7.heap.size [.slice (some ⟨g0, 0, none⟩) T.st.length T.st.length, .slice (some ⟨g1, 0, none⟩) T.ro.length T.ro.length, .slice (some ⟨g2, 0, none⟩) T.ca.length T.ca.length, .slice (a 3) T.ex.length (c 3), .slice (a 4) T.tr.length (c 4), .slice (a 5) T.fr.length (c 5), .slice (a 6) T.th.length (c 6), .slice (a 7) T.gu.length (c 7), .slice (a 8) T.pa.length (c 8), .slice (a 9) T.pr.length (c 9), .int .i64 T.di, .int .i64 T.wi, .int .i64 T.cp] ((g2, Obj.cells (fl S14.ce T.ca).toArray 67 (0, 0)) :: (g1, Obj.cells (fl S15.re T.ro).toArray 63 (0, 0)) :: (g0, Obj.cells (fl S13.se T.st).toArray 51 (0, 0)) :: []) w14) := Lib.hid (by rw [← hm]; exact S.out.put (Nat.le_refl _) 2 _)
  clear C p hr b hg
  have C := Lib.hid (cpex_any (.slice (a 3) T.ex.length (c 3)) T.ex (by omega) w14 (H.out.below S.out.base).ex)
  have p := (S.out.cell (i := 3) (v := .slice (a 3) T.ex.length (c 3)) rfl).1
  go_wp2_with fail
  refine C.out.mono ?_
  rintro e w15 ⟨g3, rfl, hg, hr, b⟩
  clear o1 o2 hm
  replace S := Lib.hid ((S.out.on b).add (p := (g3, Obj.cells (fl S14.xe T.ex).toArray 70 (0, 0))) (Nat.lt_of_lt_of_le S.out.lt hg) hr)
  obtain ⟨o1, o2⟩ := S.out.cell (i := 3) (v := .slice (a 3) T.ex.length (c 3)) rfl
  obtain ⟨w16, hm⟩ : ∃ X, w15.setCell ⟨w.heap.size, 3, none⟩ (.slice (some ⟨g3, 0, none⟩) T.ex.length T.ex.length) = X := ⟨_, rfl⟩
  replace S : Hid (CSt w w.heap.size w7.heap.size [.slice (some ⟨g0, 0, none⟩) T.st.length T.st.length, .slice (some ⟨g1, 0, none⟩) T.ro.length T.ro.length, .slice (some ⟨g2, 0, none⟩) T.ca.length T.ca.length, .slice (some ⟨g3, 0, none⟩) T.ex.length T.ex.length, .slice (a 4) T.tr.length (c 4), .slice (a 5) T.fr.length (c 5), .slice (a 6) T.th.length (c 6), .slice (a 7) T.gu.length (c 7), .slice (a 8) T.pa.length (c 8), .slice (a 9) T.pr.length (c 9), .int .i64 T.di, .int .i64 T.wi, .int .i64 T.cp] ((g3, Obj.cells (fl S14.xe T.ex).toArray 70 (0, 0)) :: (g2, Obj.cells (fl S14.ce T.ca).toArray 67 (0, 0)) :: (g1, Obj.cells (fl S15.re T.ro).toArray 63 (0, 0)) :: (g0, Obj.cells (fl S13.se T.st).toArray 51 (0, 0)) :: []) w16) := Lib.hid (by rw [← hm]; exact S.out.put (Nat.le_refl _) 3 _)
  clear C p hr b hg
  have C := Lib.hid (cptr_any (.slice (a 4) T.tr.length (c 4)) T.tr (by omega) w16 (H.out.below S.out.base).tr)
  have p := (S.out.cell (i := 4) (v := .slice (a 4) T.tr.length (c 4)) rfl).1
  go_wp2_with fail
  refine C.out.mono ?_
  rintro e w17 ⟨g4, rfl, hg, hr, b⟩
  clear o1 o2 hm
  have R4 : Hid (w7.heap.size < g4 ∧ ∀ p ∈ (g3, Obj.cells (fl S14.xe T.ex).toArray 70 (0, 0)) :: (g2, Obj.cells (fl S14.ce T.ca).toArray 67 (0, 0)) :: (g1, Obj.cells (fl S15.re T.ro).toArray 63 (0, 0)) :: (g0, Obj.cells (fl S13.se T.st).toArray 51 (0, 0)) :: [], p.1 ≠ g4) := Lib.hid ⟨Nat.lt_of_lt_of_le S.out.lt hg, fun p hp e => by have := S.out.below hp; omega⟩
  replace S := Lib.hid (S.out.on b)
  obtain ⟨o1, o2⟩ := S.out.cell (i := 4) (v := .slice (a 4) T.tr.length (c 4)) rfl
  obtain ⟨w18, hm⟩ : ∃ X, w17.setCell ⟨w.heap.size, 4, none⟩ (.slice (some ⟨g4, 0, none⟩) T.tr.length T.tr.length) = X := ⟨_, rfl⟩
  have Y4 : Hid (w18.heap[g4]? = some (Obj.cells (fl te T.tr).toArray 49 (0, 0))) := Lib.hid (by rw [← hm, RowKit.Below.heap_setCell _ _ _ g4 (by have := R4.out.1; have := S.out.1; show g4 ≠ w.heap.size; omega)]; exact hr)
  replace S : Hid (CSt w w.heap.size w7.heap.size [.slice (some ⟨g0, 0, none⟩) T.st.length T.st.length, .slice (some ⟨g1, 0, none⟩) T.ro.length T.ro.length, .slice (some ⟨g2, 0, none⟩) T.ca.length T.ca.length, .slice (some ⟨g3, 0, none⟩) T.ex.length T.ex.length, .slice (some ⟨g4, 0, none⟩) T.tr.length T.tr.length, .slice (a 5) T.fr.length (c 5), .slice (a 6) T.th.length (c 6), .slice (a 7) T.gu.length (c 7), .slice (a 8) T.pa.length (c 8), .slice (a 9) T.pr.length (c 9), .int .i64 T.di, .int .i64 T.wi, .int .i64 T.cp] ((g3, Obj.cells (fl S14.xe T.ex).toArray 70 (0, 0)) :: (g2, Obj.cells (fl S14.ce T.ca).toArray 67 (0, 0)) :: (g1, Obj.cells (fl S15.re T.ro).toArray 63 (0, 0)) :: (g0, Obj.cells (fl S13.se T.st).toArray 51 (0, 0)) :: []) w18) := Lib.hid (by rw [← hm]; exact S.out.put (Nat.le_refl _) 4 _)
  clear C p hr b hg
  have p := (S.out.cell (i := 4) (v := .slice (some ⟨g4, 0, none⟩) T.tr.length T.tr.length) rfl).1
  go_wp2_with fail
  clear o1 o2 hm p
  have SR : Hid (CSt w w.heap.size w7.heap.size [.slice (some ⟨g0, 0, none⟩) T.st.length T.st.length, .slice (some ⟨g1, 0, none⟩) T.ro.length T.ro.length, .slice (some ⟨g2, 0, none⟩) T.ca.length T.ca.length, .slice (some ⟨g3, 0, none⟩) T.ex.length T.ex.length, .slice (some ⟨g4, 0, none⟩) T.tr.length T.tr.length, .slice (a 5) T.fr.length (c 5), .slice (a 6) T.th.length (c 6), .slice (a 7) T.gu.length (c 7), .slice (a 8) T.pa.length (c 8), .slice (a 9) T.pr.length (c 9), .int .i64 T.di, .int .i64 T.wi, .int .i64 T.cp] ((g3, Obj.cells (fl S14.xe T.ex).toArray 70 (0, 0)) :: (g2, Obj.cells (fl S14.ce T.ca).toArray 67 (0, 0)) :: (g1, Obj.cells (fl S15.re T.ro).toArray 63 (0, 0)) :: (g0, Obj.cells (fl S13.se T.st).toArray 51 (0, 0)) :: []) w18 ∧ w18.heap[g4]? = some (Obj.cells (fl te T.tr).toArray 49 (0, 0)) ∧ MixT T.tr ((g3, Obj.cells (fl S14.xe T.ex).toArray 70 (0, 0)) :: (g2, Obj.cells (fl S14.ce T.ca).toArray 67 (0, 0)) :: (g1, Obj.cells (fl S15.re T.ro).toArray 63 (0, 0)) :: (g0, Obj.cells (fl S13.se T.st).toArray 51 (0, 0)) :: []) T.tr ∧ (∀ p ∈ (g3, Obj.cells (fl S14.xe T.ex).toArray 70 (0, 0)) :: (g2, Obj.cells (fl S14.ce T.ca).toArray 67 (0, 0)) :: (g1, Obj.cells (fl S15.re T.ro).toArray 63 (0, 0)) :: (g0, Obj.cells (fl S13.se T.st).toArray 51 (0, 0)) :: [], p.1 ≠ g4) ∧ ∀ p ∈ (g3, Obj.cells (fl S14.xe T.ex).toArray 70 (0, 0)) :: (g2, Obj.cells (fl S14.ce T.ca).toArray 67 (0, 0)) :: (g1, Obj.cells (fl S15.re T.ro).toArray 63 (0, 0)) :: (g0, Obj.cells (fl S13.se T.st).toArray 51 (0, 0)) :: [], p ∈ (g3, Obj.cells (fl S14.xe T.ex).toArray 70 (0, 0)) :: (g2, Obj.cells (fl S14.ce T.ca).toArray 67 (0, 0)) :: (g1, Obj.cells (fl S15.re T.ro).toArray 63 (0, 0)) :: (g0, Obj.cells (fl S13.se T.st).toArray 51 (0, 0)) :: []) := Lib.hid ⟨S.out, Y4.out, MixT.start, R4.out.2, fun _ hp => hp⟩
  have G4 : Hid (w7.heap.size < g4) := Lib.hid R4.out.1
  clear S Y4 R4
  go_loopw [27] (fun i wr => ∃ (k : Nat) (Lr : List Tp) (qs : List (Nat × Obj)), i = .int .i64 k ∧ k ≤ T.tr.length ∧ Hid (CSt w w.heap.size w7.heap.size [.slice (some ⟨g0, 0, none⟩) T.st.length T.st.length, .slice (some ⟨g1, 0, none⟩) T.ro.length T.ro.length, .slice (some ⟨g2, 0, none⟩) T.ca.length T.ca.length, .slice (some ⟨g3, 0, none⟩) T.ex.length T.ex.length, .slice (some ⟨g4, 0, none⟩) T.tr.length T.tr.length, .slice (a 5) T.fr.length (c 5), .slice (a 6) T.th.length (c 6), .slice (a 7) T.gu.length (c 7), .slice (a 8) T.pa.length (c 8), .slice (a 9) T.pr.length (c 9), .int .i64 T.di, .int .i64 T.wi, .int .i64 T.cp] qs wr ∧ wr.heap[g4]? = some (Obj.cells (fl te Lr).toArray 49 (0, 0)) ∧ MixT T.tr qs Lr ∧ (∀ p ∈ qs, p.1 ≠ g4) ∧ ∀ p ∈ (g3, Obj.cells (fl S14.xe T.ex).toArray 70 (0, 0)) :: (g2, Obj.cells (fl S14.ce T.ca).toArray 67 (0, 0)) :: (g1, Obj.cells (fl S15.re T.ro).toArray 63 (0, 0)) :: (g0, Obj.cells (fl S13.se T.st).toArray 51 (0, 0)) :: [], p ∈ qs)) (fun i _ => T.tr.length - (intOf i).toNat)
  case atStart => exact ⟨0, T.tr, _, rfl, Nat.zero_le _, SR⟩
  case round =>
    clear SR
    obtain ⟨k, Lr, qs, rfl, hk, SR⟩ := hrel
    have p := (SR.out.1.cell (i := 4) (v := .slice (some ⟨g4, 0, none⟩) T.tr.length T.tr.length) rfl).1
    by_cases hlt : k < T.tr.length
    · obtain ⟨⟨id, r, ca, f, v, cl⟩, hx⟩ := at_lt (l := Lr) (k := k) (by rw [SR.out.2.2.1.len]; exact hlt)
      obtain ⟨lc, -, -⟩ := SR.out.2.2.1.ok ((H.out.below SR.out.1.base).tr) (fun p hp => SR.out.1.here hp) _ (List.mem_of_getElem? hx)
      obtain ⟨B, m, rfl⟩ : ∃ B m, v = .slice B cl.length m := by obtain ⟨B, m, e, -⟩ := lc; exact ⟨B, m, e⟩
      have h40 : cl.length ≤ 40 := by obtain ⟨y, hy, e⟩ := SR.out.2.2.1.cl (List.mem_of_getElem? hx); have h1 := HC.out y hy; rw [show cl = y.2.2.2.2.2 from e]; exact h1
      have rc : wr.cell? ⟨g4, k * 5 + 4, none⟩ = some (.slice B cl.length m) := by rw [cell_of_row _ _ _ _ _ _ SR.out.2.1, List.getElem?_toArray]; exact fl_at te_len hx 4 (by omega)
      have C := Lib.hid (cpcc_any (.slice B cl.length m) cl (by omega) wr.drew (LstG.below lc (Below.refl _ _).drew))
      have gk : (k : Int) < (T.tr.length : Int) := by omega
      have gg : g4 < wr.heap.size := (Array.getElem?_eq_some_iff.1 SR.out.2.1).1
      have GG := Lib.hid gg
      have HX := Lib.hid hx
      have RC := Lib.hid rc
      have KK := Lib.hid (show k < T.tr.length from hlt)
      clear lc hx hlt h40 gg hk
      go_wp2_with fail
      refine startT (S := fun W => W.cell? ⟨w.heap.size, 4, none⟩ = some (.slice (some ⟨g4, 0, none⟩) T.tr.length T.tr.length)) skCl 13 (by kernel_rfl) (by kernel_rfl) (by kernel_rfl) (by kernel_rfl) (bitsL 13 0) (by kernel_rfl) p (fun hHeld => ?_)
      obtain ⟨w1, hw1⟩ : ∃ W, wr.drew = W := ⟨_, rfl⟩
      have bw1 : Below wr.heap.size wr w1 := by rw [← hw1]; exact (Below.refl _ _).drew
      have rc1 := (bw1.cell (p := ⟨g4, k * 5 + 4, none⟩) GG.out).trans RC.out
      rw [hw1] at hHeld C ⊢
      clear hw1 p rc
      refine takeT (i := 0) (v := ?_) (a' := ?_) 30 (bitsL 13 1) (by kernel_rfl) rfl rfl (by kernel_rfl) (fun _ _ _ h => h) (Or.inl ⟨by rfl, ?_⟩) (by assumption) ?_ ?_
      rotate_left 2
      · intro W hW
        replace hW : W.cell? ⟨w.heap.size, 4, none⟩ = some (.slice (some ⟨g4, 0, none⟩) T.tr.length T.tr.length) := hW
        go_simp
        try with_reducible rfl
      · simp only [Act.put, List.setIfInBounds_toArray, List.set_cons_zero, List.set_cons_succ]
        try with_reducible rfl
      refine takeT (i := 2) (v := ?_) (a' := ?_) 32 (bitsL 13 5) (by kernel_rfl) rfl rfl (by kernel_rfl) (fun _ _ _ h => h) (Or.inl ⟨by rfl, ?_⟩) (by assumption) ?_ ?_
      rotate_left 2
      · intro W hW
        replace hW : W.cell? ⟨w.heap.size, 4, none⟩ = some (.slice (some ⟨g4, 0, none⟩) T.tr.length T.tr.length) := hW
        go_simp
        try with_reducible rfl
      · simp only [Act.put, List.setIfInBounds_toArray, List.set_cons_zero, List.set_cons_succ]
        try with_reducible rfl
      refine takeT (i := 3) (v := ?_) (a' := ?_) 33 (bitsL 13 13) (by kernel_rfl) rfl rfl (by kernel_rfl) (fun _ _ _ h => h) (Or.inl ⟨by rfl, ?_⟩) (by assumption) ?_ ?_
      rotate_left 2
      · intro W hW
        replace hW : W.cell? ⟨w.heap.size, 4, none⟩ = some (.slice (some ⟨g4, 0, none⟩) T.tr.length T.tr.length) := hW
        go_simp
        try with_reducible rfl
      · simp only [Act.put, List.setIfInBounds_toArray, List.set_cons_zero, List.set_cons_succ]
        try with_reducible rfl
      refine takeT (i := 5) (v := ?_) (a' := ?_) 35 (bitsL 13 45) (by kernel_rfl) rfl rfl (by kernel_rfl) (fun _ _ _ h => h) (Or.inl ⟨by rfl, ?_⟩) (by assumption) ?_ ?_
      rotate_left 2
      · intro W hW
        replace hW : W.cell? ⟨w.heap.size, 4, none⟩ = some (.slice (some ⟨g4, 0, none⟩) T.tr.length T.tr.length) := hW
        go_simp
        try with_reducible rfl
      · simp only [Act.put, List.setIfInBounds_toArray, List.set_cons_zero, List.set_cons_succ]
        try with_reducible rfl
      refine takeT (i := 1) (v := ?_) (a' := ?_) 31 (bitsL 13 47) (by kernel_rfl) rfl rfl (by kernel_rfl) (fun _ _ _ h => h) (Or.inl ⟨by rfl, ?_⟩) (by assumption) ?_ ?_
      rotate_left 2
      · intro W hW
        replace hW : W.cell? ⟨w.heap.size, 4, none⟩ = some (.slice (some ⟨g4, 0, none⟩) T.tr.length T.tr.length) := hW
        go_simp
        try with_reducible rfl
      · simp only [Act.put, List.setIfInBounds_toArray, List.set_cons_zero, List.set_cons_succ]
        try with_reducible rfl
      refine takeT (i := 4) (v := ?_) (a' := ?_) 34 (bitsL 13 63) (by kernel_rfl) rfl rfl (by kernel_rfl) (fun _ _ _ h => h) (Or.inl ⟨by rfl, ?_⟩) (by assumption) ?_ ?_
      rotate_left 2
      · intro W hW
        replace hW : W.cell? ⟨w.heap.size, 4, none⟩ = some (.slice (some ⟨g4, 0, none⟩) T.tr.length T.tr.length) := hW
        go_simp
        try with_reducible rfl
      · simp only [Act.put, List.setIfInBounds_toArray, List.set_cons_zero, List.set_cons_succ]
        try with_reducible rfl
      refine takeT (i := 6) (v := ?_) (a' := ?_) 36 (bitsL 13 127) (by kernel_rfl) rfl rfl (by kernel_rfl) (fun _ _ _ h => h) (Or.inl ⟨by rfl, ?_⟩) (by assumption) ?_ ?_
      rotate_left 2
      · intro W hW
        replace hW : W.cell? ⟨w.heap.size, 4, none⟩ = some (.slice (some ⟨g4, 0, none⟩) T.tr.length T.tr.length) := hW
        go_simp
        try with_reducible rfl
      · simp only [Act.put, List.setIfInBounds_toArray, List.set_cons_zero, List.set_cons_succ]
        try with_reducible rfl
      refine takeT (i := 7) (v := ?_) (a' := ?_) 37 (bitsL 13 255) (by kernel_rfl) rfl rfl (by kernel_rfl) (fun _ _ _ h => h) (Or.inl ⟨by rfl, ?_⟩) (by assumption) ?_ ?_
      rotate_left 2
      · intro W hW
        replace hW : W.cell? ⟨w.heap.size, 4, none⟩ = some (.slice (some ⟨g4, 0, none⟩) T.tr.length T.tr.length) := hW
        go_simp
        try with_reducible rfl
      · simp only [Act.put, List.setIfInBounds_toArray, List.set_cons_zero, List.set_cons_succ]
        try with_reducible rfl
      refine makeT (i := 8) (v := .slice B cl.length m) (w' := w1) (a' := ?_) 38 (bitsL 13 511) (by kernel_rfl) (by kernel_rfl) rfl rfl (by rfl) ?_ (by assumption) ?_ ?_
      rotate_left 1
      · go_simp
        try with_reducible rfl
      · simp only [Act.put, List.setIfInBounds_toArray, List.set_cons_zero, List.set_cons_succ]
        try with_reducible rfl
      refine callT (i := 9) (R := fun u W' => ∃ g, u = .slice (some ⟨g, 0, none⟩) cl.length cl.length ∧ wr.heap.size ≤ g ∧ W'.heap[g]? = some (Obj.cells (fl cc cl).toArray 74 (0, 0)) ∧ Below wr.heap.size w1 W') 39 (bitsL 13 1023) (by kernel_rfl) (by kernel_rfl) rfl rfl (by rfl) (by kernel_rfl) (C.out.mono fun e w' h => by obtain ⟨g, rfl, h1, h2, h3⟩ := h; have z1 := bw1.size; exact ⟨_, rfl, g, rfl, Nat.le_trans z1 h1, h2, h3.mono z1⟩) ?_
      rintro u w2 ⟨g, rfl, hg, hr, b2⟩
      have b3 : Below wr.heap.size wr w2 := bw1.trans b2
      have s2 := (SR.out.1.on b3).add (p := (g, Obj.cells (fl cc cl).toArray 74 (0, 0))) (Nat.lt_of_lt_of_le SR.out.1.lt hg) hr
      have k2 := (s2.cell (i := 4) (v := .slice (some ⟨g4, 0, none⟩) T.tr.length T.tr.length) rfl).1
      have n2 := (b3.cell (p := ⟨g4, k * 5 + 4, none⟩) GG.out).trans RC.out
      have y2 := (b3.block _ GG.out).trans SR.out.2.1
      have fz : w2.frozen? ⟨g4, k * 5 + 4, none⟩ = false := frozen_of_row _ _ _ _ _ y2
      obtain ⟨w3, h3⟩ : ∃ X, w2.setCell ⟨g4, k * 5 + 4, none⟩ (.slice (some ⟨g, 0, none⟩) cl.length cl.length) = X := ⟨_, rfl⟩
      have ng : ∀ p ∈ (g, Obj.cells (fl cc cl).toArray 74 (0, 0)) :: qs, p.1 ≠ g4 := fun p hp => by
        rcases List.mem_cons.1 hp with rfl | hm
        · show g ≠ g4; have h1 := GG.out; have h2 : wr.heap.size ≤ g := hg; omega
        · exact SR.out.2.2.2.1 p hm
      have s3 : CSt w w.heap.size w7.heap.size [.slice (some ⟨g0, 0, none⟩) T.st.length T.st.length, .slice (some ⟨g1, 0, none⟩) T.ro.length T.ro.length, .slice (some ⟨g2, 0, none⟩) T.ca.length T.ca.length, .slice (some ⟨g3, 0, none⟩) T.ex.length T.ex.length, .slice (some ⟨g4, 0, none⟩) T.tr.length T.tr.length, .slice (a 5) T.fr.length (c 5), .slice (a 6) T.th.length (c 6), .slice (a 7) T.gu.length (c 7), .slice (a 8) T.pa.length (c 8), .slice (a 9) T.pr.length (c 9), .int .i64 T.di, .int .i64 T.wi, .int .i64 T.cp] ((g, Obj.cells (fl cc cl).toArray 74 (0, 0)) :: qs) w3 := by
        rw [← h3]
        exact s2.far (Nat.le_of_lt (Nat.lt_trans SR.out.1.1 G4.out)) G4.out ng _ _
      have k3 := (s3.cell (i := 4) (v := .slice (some ⟨g4, 0, none⟩) T.tr.length T.tr.length) rfl).1
      have N : Hid (CSt w w.heap.size w7.heap.size [.slice (some ⟨g0, 0, none⟩) T.st.length T.st.length, .slice (some ⟨g1, 0, none⟩) T.ro.length T.ro.length, .slice (some ⟨g2, 0, none⟩) T.ca.length T.ca.length, .slice (some ⟨g3, 0, none⟩) T.ex.length T.ex.length, .slice (some ⟨g4, 0, none⟩) T.tr.length T.tr.length, .slice (a 5) T.fr.length (c 5), .slice (a 6) T.th.length (c 6), .slice (a 7) T.gu.length (c 7), .slice (a 8) T.pa.length (c 8), .slice (a 9) T.pr.length (c 9), .int .i64 T.di, .int .i64 T.wi, .int .i64 T.cp] ((g, Obj.cells (fl cc cl).toArray 74 (0, 0)) :: qs) w3 ∧ w3.heap[g4]? = some (Obj.cells (fl te (Lr.set k (id, r, ca, f, .slice (some ⟨g, 0, none⟩) cl.length cl.length, cl))).toArray 49 (0, 0)) ∧ MixT T.tr ((g, Obj.cells (fl cc cl).toArray 74 (0, 0)) :: qs) (Lr.set k (id, r, ca, f, .slice (some ⟨g, 0, none⟩) cl.length cl.length, cl)) ∧ (∀ p ∈ (g, Obj.cells (fl cc cl).toArray 74 (0, 0)) :: qs, p.1 ≠ g4) ∧ ∀ p ∈ (g3, Obj.cells (fl S14.xe T.ex).toArray 70 (0, 0)) :: (g2, Obj.cells (fl S14.ce T.ca).toArray 67 (0, 0)) :: (g1, Obj.cells (fl S15.re T.ro).toArray 63 (0, 0)) :: (g0, Obj.cells (fl S13.se T.st).toArray 51 (0, 0)) :: [], p ∈ (g, Obj.cells (fl cc cl).toArray 74 (0, 0)) :: qs) := by
        refine ⟨s3, ?_, SR.out.2.2.1.put HX.out, ng, fun p hp => List.mem_cons_of_mem _ (SR.out.2.2.2.2 p hp)⟩
        rw [← h3, heap_setCell_same _ _ _ _ _ _ y2, List.setIfInBounds_toArray, fl_set te_len (fun x => (x.1, x.2.1, x.2.2.1, x.2.2.2.1, .slice (some ⟨g, 0, none⟩) cl.length cl.length, x.2.2.2.2.2)) 4 _ (by omega) Lr k _ HX.out rfl]
      refine ⟨k2, ?_⟩
      clear s2 y2 s3 ng b3 b2 hr hg C hHeld rc1 bw1 HX RC
      refine actT (a' := ?_) ?_ ?_
      rotate_left 1
      · simp only [Act.put, List.setIfInBounds_toArray, List.set_cons_zero, List.set_cons_succ]
        try with_reducible rfl
      refine makeT (i := 10) (v := .pointer (some ⟨g4, k * 5, none⟩)) (w' := w2) (a' := ?_) 40 (bitsL 13 2047) (by kernel_rfl) (by kernel_rfl) rfl rfl (by rfl) ?_ (by assumption) ?_ ?_
      rotate_left 1
      · go_simp
        try with_reducible rfl
      · simp only [Act.put, List.setIfInBounds_toArray, List.set_cons_zero, List.set_cons_succ]
        try with_reducible rfl
      refine makeT (i := 11) (v := .pointer (some ⟨g4, k * 5 + 4, none⟩)) (w' := w2) (a' := ?_) 41 (bitsL 13 4095) (by kernel_rfl) (by kernel_rfl) rfl rfl (by rfl) ?_ (by assumption) ?_ ?_
      rotate_left 1
      · go_simp
        try with_reducible rfl
      · simp only [Act.put, List.setIfInBounds_toArray, List.set_cons_zero, List.set_cons_succ]
        try with_reducible rfl
      refine storeT (i := 12) (w' := w3) (bitsL 13 8191) (by kernel_rfl) (by kernel_rfl) rfl rfl (by rfl) ?_ k3 ?_
      · go_simp
        try with_reducible rfl
      refine doneT (by kernel_rfl) ?_
      go_wp2_with fail
      go_roundw
      case rel => exact ⟨k + 1, _, _, by go_num, by have := KK.out; omega, N⟩
      case measure => simp [intOf]; have := KK.out; omega
    · have dk : decide (k < T.tr.length) = false := by rw [decide_eq_false_iff_not]; exact hlt
      have MX := Lib.hid SR.out.2.2.1
      have PSS := Lib.hid SR.out.2.2.2.2
      have S : Hid (CSt w w.heap.size w7.heap.size [.slice (some ⟨g0, 0, none⟩) T.st.length T.st.length, .slice (some ⟨g1, 0, none⟩) T.ro.length T.ro.length, .slice (some ⟨g2, 0, none⟩) T.ca.length T.ca.length, .slice (some ⟨g3, 0, none⟩) T.ex.length T.ex.length, .slice (some ⟨g4, 0, none⟩) T.tr.length T.tr.length, .slice (a 5) T.fr.length (c 5), .slice (a 6) T.th.length (c 6), .slice (a 7) T.gu.length (c 7), .slice (a 8) T.pa.length (c 8), .slice (a 9) T.pr.length (c 9), .int .i64 T.di, .int .i64 T.wi, .int .i64 T.cp] ((g4, Obj.cells (fl te Lr).toArray 49 (0, 0)) :: qs) wr) := Lib.hid (SR.out.1.add (p := (g4, Obj.cells (fl te Lr).toArray 49 (0, 0))) G4.out SR.out.2.1)
      clear SR p hlt hk
      have C := Lib.hid (cpfr_any (.slice (a 5) T.fr.length (c 5)) T.fr (by omega) wr (H.out.below S.out.base).fr)
      have p := (S.out.cell (i := 5) (v := .slice (a 5) T.fr.length (c 5)) rfl).1
      go_wp2_with fail
      refine C.out.mono ?_
      rintro e w19 ⟨g5, rfl, hg, hr, b⟩
      replace S := Lib.hid ((S.out.on b).add (p := (g5, Obj.cells (fl fe T.fr).toArray 77 (0, 0))) (Nat.lt_of_lt_of_le S.out.lt hg) hr)
      obtain ⟨o1, o2⟩ := S.out.cell (i := 5) (v := .slice (a 5) T.fr.length (c 5)) rfl
      obtain ⟨w20, hm⟩ : ∃ X, w19.setCell ⟨w.heap.size, 5, none⟩ (.slice (some ⟨g5, 0, none⟩) T.fr.length T.fr.length) = X := ⟨_, rfl⟩
      replace S : Hid (CSt w w.heap.size w7.heap.size [.slice (some ⟨g0, 0, none⟩) T.st.length T.st.length, .slice (some ⟨g1, 0, none⟩) T.ro.length T.ro.length, .slice (some ⟨g2, 0, none⟩) T.ca.length T.ca.length, .slice (some ⟨g3, 0, none⟩) T.ex.length T.ex.length, .slice (some ⟨g4, 0, none⟩) T.tr.length T.tr.length, .slice (some ⟨g5, 0, none⟩) T.fr.length T.fr.length, .slice (a 6) T.th.length (c 6), .slice (a 7) T.gu.length (c 7), .slice (a 8) T.pa.length (c 8), .slice (a 9) T.pr.length (c 9), .int .i64 T.di, .int .i64 T.wi, .int .i64 T.cp] ((g5, Obj.cells (fl fe T.fr).toArray 77 (0, 0)) :: (g4, Obj.cells (fl te Lr).toArray 49 (0, 0)) :: qs) w20) := Lib.hid (by rw [← hm]; exact S.out.put (Nat.le_refl _) 5 _)
      clear C p hr b hg
      have C := Lib.hid (cpth_any (.slice (a 6) T.th.length (c 6)) T.th (by omega) w20 (H.out.below S.out.base).th)
      have p := (S.out.cell (i := 6) (v := .slice (a 6) T.th.length (c 6)) rfl).1
      go_wp2_with fail
      refine C.out.mono ?_
      rintro e w21 ⟨g6, rfl, hg, hr, b⟩
      clear o1 o2 hm
      replace S := Lib.hid ((S.out.on b).add (p := (g6, Obj.cells (fl S19.hh T.th).toArray 80 (0, 0))) (Nat.lt_of_lt_of_le S.out.lt hg) hr)
      obtain ⟨o1, o2⟩ := S.out.cell (i := 6) (v := .slice (a 6) T.th.length (c 6)) rfl
      obtain ⟨w22, hm⟩ : ∃ X, w21.setCell ⟨w.heap.size, 6, none⟩ (.slice (some ⟨g6, 0, none⟩) T.th.length T.th.length) = X := ⟨_, rfl⟩
      replace S : Hid (CSt w w.heap.size w7.heap.size [.slice (some ⟨g0, 0, none⟩) T.st.length T.st.length, .slice (some ⟨g1, 0, none⟩) T.ro.length T.ro.length, .slice (some ⟨g2, 0, none⟩) T.ca.length T.ca.length, .slice (some ⟨g3, 0, none⟩) T.ex.length T.ex.length, .slice (some ⟨g4, 0, none⟩) T.tr.length T.tr.length, .slice (some ⟨g5, 0, none⟩) T.fr.length T.fr.length, .slice (some ⟨g6, 0, none⟩) T.th.length T.th.length, .slice (a 7) T.gu.length (c 7), .slice (a 8) T.pa.length (c 8), .slice (a 9) T.pr.length (c 9), .int .i64 T.di, .int .i64 T.wi, .int .i64 T.cp] ((g6, Obj.cells (fl S19.hh T.th).toArray 80 (0, 0)) :: (g5, Obj.cells (fl fe T.fr).toArray 77 (0, 0)) :: (g4, Obj.cells (fl te Lr).toArray 49 (0, 0)) :: qs) w22) := Lib.hid (by rw [← hm]; exact S.out.put (Nat.le_refl _) 6 _)
      clear C p hr b hg
      have C := Lib.hid (cpgu_any (.slice (a 7) T.gu.length (c 7)) T.gu (by omega) w22 (H.out.below S.out.base).gu)
      have p := (S.out.cell (i := 7) (v := .slice (a 7) T.gu.length (c 7)) rfl).1
      go_wp2_with fail
      refine C.out.mono ?_
      rintro e w23 ⟨g7, rfl, hg, hr, b⟩
      clear o1 o2 hm
      replace S := Lib.hid ((S.out.on b).add (p := (g7, Obj.cells (fl S19.gg T.gu).toArray 83 (0, 0))) (Nat.lt_of_lt_of_le S.out.lt hg) hr)
      obtain ⟨o1, o2⟩ := S.out.cell (i := 7) (v := .slice (a 7) T.gu.length (c 7)) rfl
      obtain ⟨w24, hm⟩ : ∃ X, w23.setCell ⟨w.heap.size, 7, none⟩ (.slice (some ⟨g7, 0, none⟩) T.gu.length T.gu.length) = X := ⟨_, rfl⟩
      replace S : Hid (CSt w w.heap.size w7.heap.size [.slice (some ⟨g0, 0, none⟩) T.st.length T.st.length, .slice (some ⟨g1, 0, none⟩) T.ro.length T.ro.length, .slice (some ⟨g2, 0, none⟩) T.ca.length T.ca.length, .slice (some ⟨g3, 0, none⟩) T.ex.length T.ex.length, .slice (some ⟨g4, 0, none⟩) T.tr.length T.tr.length, .slice (some ⟨g5, 0, none⟩) T.fr.length T.fr.length, .slice (some ⟨g6, 0, none⟩) T.th.length T.th.length, .slice (some ⟨g7, 0, none⟩) T.gu.length T.gu.length, .slice (a 8) T.pa.length (c 8), .slice (a 9) T.pr.length (c 9), .int .i64 T.di, .int .i64 T.wi, .int .i64 T.cp] ((g7, Obj.cells (fl S19.gg T.gu).toArray 83 (0, 0)) :: (g6, Obj.cells (fl S19.hh T.th).toArray 80 (0, 0)) :: (g5, Obj.cells (fl fe T.fr).toArray 77 (0, 0)) :: (g4, Obj.cells (fl te Lr).toArray 49 (0, 0)) :: qs) w24) := Lib.hid (by rw [← hm]; exact S.out.put (Nat.le_refl _) 7 _)
      clear C p hr b hg
      have C := Lib.hid (cppa_any (.slice (a 8) T.pa.length (c 8)) T.pa (by omega) w24 (H.out.below S.out.base).pa)
      have p := (S.out.cell (i := 8) (v := .slice (a 8) T.pa.length (c 8)) rfl).1
      go_wp2_with fail
      refine C.out.mono ?_
      rintro e w25 ⟨g8, rfl, hg, hr, b⟩
      clear o1 o2 hm
      replace S := Lib.hid ((S.out.on b).add (p := (g8, Obj.cells (fl S20.fe T.pa).toArray 53 (0, 0))) (Nat.lt_of_lt_of_le S.out.lt hg) hr)
      obtain ⟨o1, o2⟩ := S.out.cell (i := 8) (v := .slice (a 8) T.pa.length (c 8)) rfl
      obtain ⟨w26, hm⟩ : ∃ X, w25.setCell ⟨w.heap.size, 8, none⟩ (.slice (some ⟨g8, 0, none⟩) T.pa.length T.pa.length) = X := ⟨_, rfl⟩
      replace S : Hid (CSt w w.heap.size w7.heap.size [.slice (some ⟨g0, 0, none⟩) T.st.length T.st.length, .slice (some ⟨g1, 0, none⟩) T.ro.length T.ro.length, .slice (some ⟨g2, 0, none⟩) T.ca.length T.ca.length, .slice (some ⟨g3, 0, none⟩) T.ex.length T.ex.length, .slice (some ⟨g4, 0, none⟩) T.tr.length T.tr.length, .slice (some ⟨g5, 0, none⟩) T.fr.length T.fr.length, .slice (some ⟨g6, 0, none⟩) T.th.length T.th.length, .slice (some ⟨g7, 0, none⟩) T.gu.length T.gu.length, .slice (some ⟨g8, 0, none⟩) T.pa.length T.pa.length, .slice (a 9) T.pr.length (c 9), .int .i64 T.di, .int .i64 T.wi, .int .i64 T.cp] ((g8, Obj.cells (fl S20.fe T.pa).toArray 53 (0, 0)) :: (g7, Obj.cells (fl S19.gg T.gu).toArray 83 (0, 0)) :: (g6, Obj.cells (fl S19.hh T.th).toArray 80 (0, 0)) :: (g5, Obj.cells (fl fe T.fr).toArray 77 (0, 0)) :: (g4, Obj.cells (fl te Lr).toArray 49 (0, 0)) :: qs) w26) := Lib.hid (by rw [← hm]; exact S.out.put (Nat.le_refl _) 8 _)
      clear C p hr b hg
      have C := Lib.hid (cppr_any (.slice (a 9) T.pr.length (c 9)) T.pr (by omega) w26 (H.out.below S.out.base).pr)
      have p := (S.out.cell (i := 9) (v := .slice (a 9) T.pr.length (c 9)) rfl).1
      go_wp2_with fail
      refine C.out.mono ?_
      rintro e w27 ⟨g9, rfl, hg, hr, b⟩
      clear o1 o2 hm
      replace S := Lib.hid ((S.out.on b).add (p := (g9, Obj.cells (fl S21.pdE T.pr).toArray 87 (0, 0))) (Nat.lt_of_lt_of_le S.out.lt hg) hr)
      obtain ⟨o1, o2⟩ := S.out.cell (i := 9) (v := .slice (a 9) T.pr.length (c 9)) rfl
      obtain ⟨w28, hm⟩ : ∃ X, w27.setCell ⟨w.heap.size, 9, none⟩ (.slice (some ⟨g9, 0, none⟩) T.pr.length T.pr.length) = X := ⟨_, rfl⟩
      replace S : Hid (CSt w w.heap.size w7.heap.size [.slice (some ⟨g0, 0, none⟩) T.st.length T.st.length, .slice (some ⟨g1, 0, none⟩) T.ro.length T.ro.length, .slice (some ⟨g2, 0, none⟩) T.ca.length T.ca.length, .slice (some ⟨g3, 0, none⟩) T.ex.length T.ex.length, .slice (some ⟨g4, 0, none⟩) T.tr.length T.tr.length, .slice (some ⟨g5, 0, none⟩) T.fr.length T.fr.length, .slice (some ⟨g6, 0, none⟩) T.th.length T.th.length, .slice (some ⟨g7, 0, none⟩) T.gu.length T.gu.length, .slice (some ⟨g8, 0, none⟩) T.pa.length T.pa.length, .slice (some ⟨g9, 0, none⟩) T.pr.length T.pr.length, .int .i64 T.di, .int .i64 T.wi, .int .i64 T.cp] ((g9, Obj.cells (fl S21.pdE T.pr).toArray 87 (0, 0)) :: (g8, Obj.cells (fl S20.fe T.pa).toArray 53 (0, 0)) :: (g7, Obj.cells (fl S19.gg T.gu).toArray 83 (0, 0)) :: (g6, Obj.cells (fl S19.hh T.th).toArray 80 (0, 0)) :: (g5, Obj.cells (fl fe T.fr).toArray 77 (0, 0)) :: (g4, Obj.cells (fl te Lr).toArray 49 (0, 0)) :: qs) w28) := Lib.hid (by rw [← hm]; exact S.out.put (Nat.le_refl _) 9 _)
      clear C p hr b hg
      have HR := Lib.hid S.out.2.2.1
      have HF := Lib.hid S.out.2.1
      go_wp2_with (first
        | (refine wpList_load_row rfl 35 (.tmp 1) rfl w.heap.size rfl 35 #[.slice (some ⟨g0, 0, none⟩) T.st.length T.st.length, .slice (some ⟨g1, 0, none⟩) T.ro.length T.ro.length, .slice (some ⟨g2, 0, none⟩) T.ca.length T.ca.length, .slice (some ⟨g3, 0, none⟩) T.ex.length T.ex.length, .slice (some ⟨g4, 0, none⟩) T.tr.length T.tr.length, .slice (some ⟨g5, 0, none⟩) T.fr.length T.fr.length, .slice (some ⟨g6, 0, none⟩) T.th.length T.th.length, .slice (some ⟨g7, 0, none⟩) T.gu.length T.gu.length, .slice (some ⟨g8, 0, none⟩) T.pa.length T.pa.length, .slice (some ⟨g9, 0, none⟩) T.pr.length T.pr.length, .int .i64 T.di, .int .i64 T.wi, .int .i64 T.cp] (0, 0) _ HF.out Tryz.underlying35 rfl info_tt ?_)
        | (refine wpList_store_row rfl 35 (.tmp 2) (.tmp 65) rfl w7.heap.size #[.slice (some ⟨g0, 0, none⟩) T.st.length T.st.length, .slice (some ⟨g1, 0, none⟩) T.ro.length T.ro.length, .slice (some ⟨g2, 0, none⟩) T.ca.length T.ca.length, .slice (some ⟨g3, 0, none⟩) T.ex.length T.ex.length, .slice (some ⟨g4, 0, none⟩) T.tr.length T.tr.length, .slice (some ⟨g5, 0, none⟩) T.fr.length T.fr.length, .slice (some ⟨g6, 0, none⟩) T.th.length T.th.length, .slice (some ⟨g7, 0, none⟩) T.gu.length T.gu.length, .slice (some ⟨g8, 0, none⟩) T.pa.length T.pa.length, .slice (some ⟨g9, 0, none⟩) T.pr.length T.pr.length, .int .i64 T.di, .int .i64 T.wi, .int .i64 T.cp] rfl rfl 35 _ HR.out info_tt rfl (one13 _ _ _ _ _ _ _ _ _ _ _ _ _ _ _ _ _ _ _ _ _ _ _ _ _ _ _ _ _ _ _ _ _) ?_))
      refine bodyPost_ret (results_cell_row rfl _ _ w7.heap.size 35 #[.slice (some ⟨g0, 0, none⟩) T.st.length T.st.length, .slice (some ⟨g1, 0, none⟩) T.ro.length T.ro.length, .slice (some ⟨g2, 0, none⟩) T.ca.length T.ca.length, .slice (some ⟨g3, 0, none⟩) T.ex.length T.ex.length, .slice (some ⟨g4, 0, none⟩) T.tr.length T.tr.length, .slice (some ⟨g5, 0, none⟩) T.fr.length T.fr.length, .slice (some ⟨g6, 0, none⟩) T.th.length T.th.length, .slice (some ⟨g7, 0, none⟩) T.gu.length T.gu.length, .slice (some ⟨g8, 0, none⟩) T.pa.length T.pa.length, .slice (some ⟨g9, 0, none⟩) T.pr.length T.pr.length, .int .i64 T.di, .int .i64 T.wi, .int .i64 T.cp] (0, 0) _ rfl (setRow_heap w28 w7.heap.size _ #[.slice (some ⟨g0, 0, none⟩) T.st.length T.st.length, .slice (some ⟨g1, 0, none⟩) T.ro.length T.ro.length, .slice (some ⟨g2, 0, none⟩) T.ca.length T.ca.length, .slice (some ⟨g3, 0, none⟩) T.ex.length T.ex.length, .slice (some ⟨g4, 0, none⟩) T.tr.length T.tr.length, .slice (some ⟨g5, 0, none⟩) T.fr.length T.fr.length, .slice (some ⟨g6, 0, none⟩) T.th.length T.th.length, .slice (some ⟨g7, 0, none⟩) T.gu.length T.gu.length, .slice (some ⟨g8, 0, none⟩) T.pa.length T.pa.length, .slice (some ⟨g9, 0, none⟩) T.pr.length T.pr.length, .int .i64 T.di, .int .i64 T.wi, .int .i64 T.cp] _ _ HR.out) Tryz.underlying35 rfl info_tt) rfl ?_
      exact cl_end a c T w _ H.out (S.out.end_ (Nat.le_refl _) _) Lr qs MX.out (fun p hp => S.out.last _ (List.mem_cons_of_mem _ (List.mem_cons_of_mem _ (List.mem_cons_of_mem _ (List.mem_cons_of_mem _ (List.mem_cons_of_mem _ (List.mem_cons_of_mem _ hp))))))) g0 g1 g2 g3 g4 g5 g6 g7 g8 g9 (S.out.last (p := (g0, Obj.cells (fl S13.se T.st).toArray 51 (0, 0))) _ (List.mem_cons_of_mem _ (List.mem_cons_of_mem _ (List.mem_cons_of_mem _ (List.mem_cons_of_mem _ (List.mem_cons_of_mem _ (List.mem_cons_of_mem _ (PSS.out _ (List.mem_cons_of_mem _ (List.mem_cons_of_mem _ (List.mem_cons_of_mem _ (List.mem_cons_self)))))))))))) (S.out.last (p := (g1, Obj.cells (fl S15.re T.ro).toArray 63 (0, 0))) _ (List.mem_cons_of_mem _ (List.mem_cons_of_mem _ (List.mem_cons_of_mem _ (List.mem_cons_of_mem _ (List.mem_cons_of_mem _ (List.mem_cons_of_mem _ (PSS.out _ (List.mem_cons_of_mem _ (List.mem_cons_of_mem _ (List.mem_cons_self))))))))))) (S.out.last (p := (g2, Obj.cells (fl S14.ce T.ca).toArray 67 (0, 0))) _ (List.mem_cons_of_mem _ (List.mem_cons_of_mem _ (List.mem_cons_of_mem _ (List.mem_cons_of_mem _ (List.mem_cons_of_mem _ (List.mem_cons_of_mem _ (PSS.out _ (List.mem_cons_of_mem _ (List.mem_cons_self)))))))))) (S.out.last (p := (g3, Obj.cells (fl S14.xe T.ex).toArray 70 (0, 0))) _ (List.mem_cons_of_mem _ (List.mem_cons_of_mem _ (List.mem_cons_of_mem _ (List.mem_cons_of_mem _ (List.mem_cons_of_mem _ (List.mem_cons_of_mem _ (PSS.out _ (List.mem_cons_self))))))))) (S.out.last (p := (g4, Obj.cells (fl te Lr).toArray 49 (0, 0))) _ (List.mem_cons_of_mem _ (List.mem_cons_of_mem _ (List.mem_cons_of_mem _ (List.mem_cons_of_mem _ (List.mem_cons_of_mem _ (List.mem_cons_self))))))) (S.out.last (p := (g5, Obj.cells (fl fe T.fr).toArray 77 (0, 0))) _ (List.mem_cons_of_mem _ (List.mem_cons_of_mem _ (List.mem_cons_of_mem _ (List.mem_cons_of_mem _ (List.mem_cons_self)))))) (S.out.last (p := (g6, Obj.cells (fl S19.hh T.th).toArray 80 (0, 0))) _ (List.mem_cons_of_mem _ (List.mem_cons_of_mem _ (List.mem_cons_of_mem _ (List.mem_cons_self))))) (S.out.last (p := (g7, Obj.cells (fl S19.gg T.gu).toArray 83 (0, 0))) _ (List.mem_cons_of_mem _ (List.mem_cons_of_mem _ (List.mem_cons_self)))) (S.out.last (p := (g8, Obj.cells (fl S20.fe T.pa).toArray 53 (0, 0))) _ (List.mem_cons_of_mem _ (List.mem_cons_self))) (S.out.last (p := (g9, Obj.cells (fl S21.pdE T.pr).toArray 87 (0, 0))) _ (List.mem_cons_self))
end Go.Proofs.YtkhalnjgbdpfhaaGreat
