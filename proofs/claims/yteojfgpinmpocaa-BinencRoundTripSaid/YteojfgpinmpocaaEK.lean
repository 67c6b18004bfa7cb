/-
  put and taken of the laws: an item is appended as its encodings, and is found again: what each call answers. Condition: the byte string and the list of the item are at most as long as each theorem says.
-/
import Derived.Test.YteojfgpinmpocaaEG
namespace Go.Proofs.Yteojfgpinmpocaa
open Go.RowKit

/-- Appending a slice of bytes, a nil one too; a block of another type stays as it is. -/
theorem app_keep (w : World) {ops : Array Oper} {rest : List Oper} {o : Oper} {a : Act} {Q : Exit → Act → World → Prop} (hgd : o.guard = none) (s x : Operand)
    (ho : o.op = .call { callee := .builtin .append, args := #[s, x], argTypes := #[23, 23] }) (base : Nat) (v : Value) (l m : List UInt8) (hs : a.eval s = v) (hown : OwnB w base v l)
    (y : Value) (hx : a.eval x = y) (hy : LstB w y m) (hb : base ≤ w.heap.size)
    (hl : l.length + m.length ≤ 140737488355328) (B : Nat) (cs : Array Value) (T : TypeId) (fr : Nat × Nat) (hB : w.heap[B]? = some (.cells cs T fr)) (hT : T ≠ 5)
    (h : ∀ v' w', OwnB w' base v' (l ++ m) → Below base w w' → w'.heap[B]? = some (.cells cs T fr) → wpList Try.prog ops Q rest (a.put o.dst v') w') : wpList Try.prog ops Q (o :: rest) a w := by
  obtain ⟨i, hi, hz, hsz, hby⟩ := info_parts info_u8
  obtain ⟨A, c, rfl, hc, hn, hcell⟩ := hy
  cases A with
  | none =>
    obtain rfl := hn rfl
    have h0 : m = [] := List.length_eq_zero_iff.1 (by omega)
    subst h0
    refine wpList_plain hgd fun K hK => ?_
    have hrun := run_append_owned_none (P := Try.prog) w base 23 o.type 5 i 1 Try.underlying23 hi v l.length (bts l) hown
    unfold Oper.wp
    simp only [List.length_nil] at hx
    simp [execOp, ho, resolve, invoke, builtin, hs, hx, hrun, Result.andThen]
    exact hK _ _ (h v w (by rw [List.append_nil]; exact hown) (Below.refl _ _) hB)
  | some ad =>
    have hcells : ∀ (j : Nat) u, (bts m)[j]? = some u → w.cell? (ad.add j) = some u := by
      intro j u hu
      have hj := (List.getElem?_eq_some_iff.1 hu).1
      rw [List.length_map] at hj
      obtain ⟨b, f, hA, _, hcc⟩ := hcell (by omega)
      obtain rfl := Option.some.inj hA
      have hadd : (⟨b, f, none⟩ : Addr).add j = ⟨b, f + j, none⟩ := by unfold Addr.add; split <;> simp_all
      rw [hadd]
      exact hcc j u hu
    refine wpList_append_own w hgd s x 23 ho base 5 i _ 1 1 Try.underlying23 hi hz hsz hby rfl (by decide) v l.length (bts l) hs hown ad m.length c (bts m) hx (by simp) hcells (bts_one m) (by unfold maxLen; omega) (by omega) hb ?_
    intro v' w' h1 h2 _
    refine h v' w' ?_ (own_grown hown h2 hb) ?_
    · unfold OwnB bts
      rw [List.length_append, List.map_append]
      exact h1
    · have hlt : B < w.heap.size := by
        rcases Nat.lt_or_ge B w.heap.size with hlt | hge
        · exact hlt
        · rw [Array.getElem?_eq_none hge] at hB; cases hB
      refine (h2.block B hlt ?_).trans hB
      intro hg
      rcases hown.2 with ⟨rfl, _⟩ | ⟨g, cap, cur, rfl, _, hgc, _⟩
      · cases hg
      · obtain rfl : B = g := Option.some.inj hg
        rw [hgc] at hB
        have := Option.some.inj hB
        injection this with _ h2 _
        exact hT h2.symm
theorem box5 {w : World} {B : Nat} {c0 c1 c2 c3 c4 : Value} {T : TypeId} {fr : Nat × Nat} (h : w.heap[B]? = some (.cells #[c0, c1, c2, c3, c4] T fr)) :
    w.cell? ⟨B, 0, none⟩ = some c0 ∧ w.cell? ⟨B, 1, none⟩ = some c1 ∧ w.cell? ⟨B, 2, none⟩ = some c2 ∧ w.cell? ⟨B, 3, none⟩ = some c3 ∧ w.cell? ⟨B, 4, none⟩ = some c4 := by
  simp [World.cell?, h]
/-- The encodings of an item's parts. -/
def encIt (x : It) : List UInt8 := putU x.1 ++ (putI x.2.1 ++ (putB x.2.2.1.2 ++ (putT x.2.2.2.1 ++ putL x.2.2.2.2.2)))
set_option maxRecDepth 100000 in
set_option maxHeartbeats 2000000 in
theorem put_any (w0 : World) (x : It) (hx : OkI w0 x) (hs : x.2.2.1.2.length ≤ 200) (hl : x.2.2.2.2.2.length ≤ 50) (ub : Value) (acc : List UInt8) (hacc : acc.length ≤ 1000000) (w : World) (hw : Below w0.heap.size w0 w) (own : OwnB w w0.heap.size ub acc) :
    Calls Try.prog 35 #[ub, .agg #[.int .u64 (x.1 : Int), .int .i64 x.2.1, x.2.2.1.1, .bool x.2.2.2.1, x.2.2.2.2.1]] w fun e w' => ∃ u, e = .returned u ∧ OwnB w' w0.heap.size u (acc ++ encIt x) ∧ Below w0.heap.size w0 w' := by
  obtain ⟨n, i, ⟨sv, s⟩, b, ⟨lv, l⟩⟩ := x
  obtain ⟨h1, h2, ⟨h3, -⟩, ⟨h4, -⟩, h5⟩ := hx
  simp only at h1 h2 h3 h4 h5 hs hl ⊢
  have C1 := Lib.hid (fun W => puint_any n h1 W)
  have C2 := Lib.hid (fun W => pint_any i h2 W)
  have C3 := Lib.hid (fun W (hb : Below w0.heap.size w0 W) => pbytes_any sv s (by omega) W (h3.below hb))
  have C4 := Lib.hid (fun W => pbool_any b W)
  have C5 := Lib.hid (fun W (hb : Below w0.heap.size w0 W) => pints_any lv l (by omega) h5 W (h4.below hb))
  have K1 := Lib.hid (putU_len n)
  have K2 := Lib.hid (putI_len i)
  have K3 := Lib.hid (putB_len s)
  have K4 := Lib.hid (putT_len b)
  have K5 := Lib.hid (putL_len l)
  have HE : Hid (encIt (n, i, (sv, s), b, (lv, l)) = putU n ++ (putI i ++ (putB s ++ (putT b ++ putL l)))) := rfl
  generalize encIt (n, i, (sv, s), b, (lv, l)) = E at HE ⊢
  generalize putU n = P1 at C1 K1 HE
  generalize putI i = P2 at C2 K2 HE
  generalize putB s = P3 at C3 K3 HE
  generalize putT b = P4 at C4 K4 HE
  generalize putL l = P5 at C5 K5 HE
  have LN : Hid (acc.length ≤ 1000000 ∧ s.length ≤ 200 ∧ l.length ≤ 50) := ⟨hacc, hs, hl⟩
  have BB := Lib.hid (hw.alloc hw.size (.cells #[.int .u64 (n : Int), .int .i64 i, sv, .bool b, lv] 59 (0, 0)))
  have OB : Hid (OwnB (w.alloc (.cells #[.int .u64 (n : Int), .int .i64 i, sv, .bool b, lv] 59 (0, 0))) w0.heap.size ub acc) := own_on ((Below.refl _ _).alloc (Nat.le_refl _) _) own
  have XB : Hid ((w.alloc (.cells #[.int .u64 (n : Int), .int .i64 i, sv, .bool b, lv] 59 (0, 0))).heap[w.heap.size]? = some (.cells #[.int .u64 (n : Int), .int .i64 i, sv, .bool b, lv] 59 (0, 0))) := heap_alloc_new _ _
  have SB : Hid (w.heap.size < (w.alloc (.cells #[.int .u64 (n : Int), .int .i64 i, sv, .bool b, lv] 59 (0, 0))).heap.size) := by show _ < _; simp
  obtain ⟨a0, ha0⟩ : ∃ z, w.alloc (.cells #[.int .u64 (n : Int), .int .i64 i, sv, .bool b, lv] 59 (0, 0)) = z := ⟨_, rfl⟩
  rw [ha0] at BB OB XB SB
  clear h1 h2 h3 h4 h5 hs hl hacc hw own
  go_enter Try.func35, Try.ntmps35
  obtain ⟨m0, -⟩ := box5 XB.out
  go_wp2_with fail
  refine (C1.out a0).mono ?_
  rintro e b1 ⟨u1, rfl, ow, bw⟩
  have OB2 := Lib.hid (own_on bw OB.out)
  have YB := Lib.hid ow.lst
  have BB2 := Lib.hid (bel_on BB.out bw)
  have XB2 : Hid (b1.heap[w.heap.size]? = some (.cells #[.int .u64 (n : Int), .int .i64 i, sv, .bool b, lv] 59 (0, 0))) := (bw.block w.heap.size SB.out).trans XB.out
  have SB2 := Lib.hid (Nat.lt_of_lt_of_le SB.out bw.size)
  clear ow bw OB BB XB SB m0 ha0
  have LA : Hid ((acc).length + P1.length ≤ 140737488355328) := by show _ ≤ _; have := LN.out; have := K1.out; have := K2.out; have := K3.out; have := K4.out; have := K5.out; omega
  go_wp2_with (at_builtin; refine app_keep _ rfl (.tmp 6) (.tmp 9) rfl w0.heap.size _ acc P1 rfl OB2.out _ rfl YB.out BB2.out.size LA.out w.heap.size _ _ _ XB2.out (by decide) ?_; intro v1 a1 own1 bl1 bx1; have OB := Lib.hid own1; have BB := Lib.hid (BB2.out.trans bl1); have XB := Lib.hid bx1; have SB := Lib.hid (Nat.lt_of_lt_of_le SB2.out bl1.size); clear own1 bl1 bx1 OB2 YB BB2 XB2 SB2 LA; try (obtain ⟨n0, n1, n2, n3, n4⟩ := box5 XB.out; have m1 := n1; clear n0 n1 n2 n3 n4))
  go_wp2_with fail
  refine (C2.out a1).mono ?_
  rintro e b2 ⟨u2, rfl, ow, bw⟩
  have OB2 := Lib.hid (own_on bw OB.out)
  have YB := Lib.hid ow.lst
  have BB2 := Lib.hid (bel_on BB.out bw)
  have XB2 : Hid (b2.heap[w.heap.size]? = some (.cells #[.int .u64 (n : Int), .int .i64 i, sv, .bool b, lv] 59 (0, 0))) := (bw.block w.heap.size SB.out).trans XB.out
  have SB2 := Lib.hid (Nat.lt_of_lt_of_le SB.out bw.size)
  clear ow bw OB BB XB SB m1 
  have LA : Hid (((acc ++ P1)).length + P2.length ≤ 140737488355328) := by show _ ≤ _; simp only [List.length_append]; have := LN.out; have := K1.out; have := K2.out; have := K3.out; have := K4.out; have := K5.out; omega
  go_wp2_with (at_builtin; refine app_keep _ rfl (.tmp 11) (.tmp 14) rfl w0.heap.size _ (acc ++ P1) P2 rfl OB2.out _ rfl YB.out BB2.out.size LA.out w.heap.size _ _ _ XB2.out (by decide) ?_; intro v2 a2 own2 bl2 bx2; have OB := Lib.hid own2; have BB := Lib.hid (BB2.out.trans bl2); have XB := Lib.hid bx2; have SB := Lib.hid (Nat.lt_of_lt_of_le SB2.out bl2.size); clear own2 bl2 bx2 OB2 YB BB2 XB2 SB2 LA; try (obtain ⟨n0, n1, n2, n3, n4⟩ := box5 XB.out; have m2 := n2; clear n0 n1 n2 n3 n4))
  go_wp2_with fail
  refine (C3.out a2 BB.out).mono ?_
  rintro e b3 ⟨u3, rfl, ow, bw⟩
  have OB2 := Lib.hid (own_on bw OB.out)
  have YB := Lib.hid ow.lst
  have BB2 := Lib.hid (bel_on BB.out bw)
  have XB2 : Hid (b3.heap[w.heap.size]? = some (.cells #[.int .u64 (n : Int), .int .i64 i, sv, .bool b, lv] 59 (0, 0))) := (bw.block w.heap.size SB.out).trans XB.out
  have SB2 := Lib.hid (Nat.lt_of_lt_of_le SB.out bw.size)
  clear ow bw OB BB XB SB m2 
  have LA : Hid ((((acc ++ P1) ++ P2)).length + P3.length ≤ 140737488355328) := by show _ ≤ _; simp only [List.length_append]; have := LN.out; have := K1.out; have := K2.out; have := K3.out; have := K4.out; have := K5.out; omega
  go_wp2_with (at_builtin; refine app_keep _ rfl (.tmp 16) (.tmp 19) rfl w0.heap.size _ ((acc ++ P1) ++ P2) P3 rfl OB2.out _ rfl YB.out BB2.out.size LA.out w.heap.size _ _ _ XB2.out (by decide) ?_; intro v3 a3 own3 bl3 bx3; have OB := Lib.hid own3; have BB := Lib.hid (BB2.out.trans bl3); have XB := Lib.hid bx3; have SB := Lib.hid (Nat.lt_of_lt_of_le SB2.out bl3.size); clear own3 bl3 bx3 OB2 YB BB2 XB2 SB2 LA; try (obtain ⟨n0, n1, n2, n3, n4⟩ := box5 XB.out; have m3 := n3; clear n0 n1 n2 n3 n4))
  go_wp2_with fail
  refine (C4.out a3).mono ?_
  rintro e b4 ⟨u4, rfl, ow, bw⟩
  have OB2 := Lib.hid (own_on bw OB.out)
  have YB := Lib.hid ow.lst
  have BB2 := Lib.hid (bel_on BB.out bw)
  have XB2 : Hid (b4.heap[w.heap.size]? = some (.cells #[.int .u64 (n : Int), .int .i64 i, sv, .bool b, lv] 59 (0, 0))) := (bw.block w.heap.size SB.out).trans XB.out
  have SB2 := Lib.hid (Nat.lt_of_lt_of_le SB.out bw.size)
  clear ow bw OB BB XB SB m3 
  have LA : Hid (((((acc ++ P1) ++ P2) ++ P3)).length + P4.length ≤ 140737488355328) := by show _ ≤ _; simp only [List.length_append]; have := LN.out; have := K1.out; have := K2.out; have := K3.out; have := K4.out; have := K5.out; omega
  go_wp2_with (at_builtin; refine app_keep _ rfl (.tmp 21) (.tmp 24) rfl w0.heap.size _ (((acc ++ P1) ++ P2) ++ P3) P4 rfl OB2.out _ rfl YB.out BB2.out.size LA.out w.heap.size _ _ _ XB2.out (by decide) ?_; intro v4 a4 own4 bl4 bx4; have OB := Lib.hid own4; have BB := Lib.hid (BB2.out.trans bl4); have XB := Lib.hid bx4; have SB := Lib.hid (Nat.lt_of_lt_of_le SB2.out bl4.size); clear own4 bl4 bx4 OB2 YB BB2 XB2 SB2 LA; try (obtain ⟨n0, n1, n2, n3, n4⟩ := box5 XB.out; have m4 := n4; clear n0 n1 n2 n3 n4))
  go_wp2_with fail
  refine (C5.out a4 BB.out).mono ?_
  rintro e b5 ⟨u5, rfl, ow, bw⟩
  have OB2 := Lib.hid (own_on bw OB.out)
  have YB := Lib.hid ow.lst
  have BB2 := Lib.hid (bel_on BB.out bw)
  have XB2 : Hid (b5.heap[w.heap.size]? = some (.cells #[.int .u64 (n : Int), .int .i64 i, sv, .bool b, lv] 59 (0, 0))) := (bw.block w.heap.size SB.out).trans XB.out
  have SB2 := Lib.hid (Nat.lt_of_lt_of_le SB.out bw.size)
  clear ow bw OB BB XB SB m4 
  have LA : Hid ((((((acc ++ P1) ++ P2) ++ P3) ++ P4)).length + P5.length ≤ 140737488355328) := by show _ ≤ _; simp only [List.length_append]; have := LN.out; have := K1.out; have := K2.out; have := K3.out; have := K4.out; have := K5.out; omega
  go_wp2_with (at_builtin; refine app_keep _ rfl (.tmp 26) (.tmp 29) rfl w0.heap.size _ ((((acc ++ P1) ++ P2) ++ P3) ++ P4) P5 rfl OB2.out _ rfl YB.out BB2.out.size LA.out w.heap.size _ _ _ XB2.out (by decide) ?_; intro v5 a5 own5 bl5 bx5; have OB := Lib.hid own5; have BB := Lib.hid (BB2.out.trans bl5); have XB := Lib.hid bx5; have SB := Lib.hid (Nat.lt_of_lt_of_le SB2.out bl5.size); clear own5 bl5 bx5 OB2 YB BB2 XB2 SB2 LA; skip)
  go_ret
  refine ⟨_, rfl, ?_, BB.out⟩
  rw [HE.out]
  have h := OB.out
  simp only [List.append_assoc] at h
  exact h
set_option maxRecDepth 100000 in
set_option maxHeartbeats 2000000 in
theorem taken_any (x : It) (vb : Value) (L : List UInt8) (hL : L.length ≤ 1048576) (at0 p1 p2 p3 p4 p5 : Int) (w : World) (hx : OkI w x) (hs : x.2.2.1.2.length ≤ 200) (hl : x.2.2.2.2.2.length ≤ 50) (h : LstB w vb L)
    (r1 : rU L at0 = (x.1, p1, 0)) (r2 : rI L p1 = (x.2.1, p2, 0)) (r3 : rB L p2 (x.2.2.1.2.length : Nat) = (x.2.2.1.2, p3, 0)) (r4 : rT L p3 = (x.2.2.2.1, p4, 0)) (r5 : rL L p4 (x.2.2.2.2.2.length : Nat) = (x.2.2.2.2.2, p5, 0)) :
    Calls Try.prog 36 #[vb, .int .i64 at0, .agg #[.int .u64 (x.1 : Int), .int .i64 x.2.1, x.2.2.1.1, .bool x.2.2.2.1, x.2.2.2.2.1]] w fun e w' => e = .returned (.tuple #[.int .i64 p5, .bool true]) ∧ Below w.heap.size w w' := by
  obtain ⟨n, i, ⟨sv, s⟩, b, ⟨lv, l⟩⟩ := x
  obtain ⟨h1, h2, ⟨h3, -⟩, ⟨h4, -⟩, h5⟩ := hx
  simp only at h1 h2 h3 h4 h5 hs hl r1 r2 r3 r4 r5 ⊢
  have C1 := Lib.hid (fun W (hb : Below w.heap.size w W) => uint_any vb L (by omega) at0 W (h.below hb))
  rw [r1] at C1
  have C2 := Lib.hid (fun W (hb : Below w.heap.size w W) => int_any vb L (by omega) p1 W (h.below hb))
  rw [r2] at C2
  have C3 := Lib.hid (fun W (hb : Below w.heap.size w W) => bytes_any vb L hL p2 (s.length : Nat) (by omega) W (h.below hb))
  rw [r3] at C3
  have C4 := Lib.hid (fun W (hb : Below w.heap.size w W) => bool_any vb L (by omega) p3 W (h.below hb))
  rw [r4] at C4
  have C5 := Lib.hid (fun W (hb : Below w.heap.size w W) => ints_any vb L hL p4 (l.length : Nat) (by omega) W (h.below hb))
  rw [r5] at C5
  have H3 := Lib.hid h3
  have H4 := Lib.hid h4
  have C6 := Lib.hid (fun u W (h1 : LstI W u l) (hb : Below w.heap.size w W) => Calls.below (same_any u lv l l (by omega) W h1 (H4.out.below hb)))
  rw [decide_eq_true rfl] at C6
  obtain ⟨S, hS⟩ : ∃ S, str s = S := ⟨_, rfl⟩
  have HS := Lib.hid hS
  obtain ⟨As, cs, rfl, -⟩ := h3
  obtain ⟨Al, cl, rfl, -⟩ := h4
  have BB := Lib.hid ((Below.refl w.heap.size w).alloc (Nat.le_refl _) (.cells #[.int .u64 (n : Int), .int .i64 i, .slice As s.length cs, .bool b, .slice Al l.length cl] 59 (0, 0)))
  have XB : Hid ((w.alloc (.cells #[.int .u64 (n : Int), .int .i64 i, .slice As s.length cs, .bool b, .slice Al l.length cl] 59 (0, 0))).heap[w.heap.size]? = some (.cells #[.int .u64 (n : Int), .int .i64 i, .slice As s.length cs, .bool b, .slice Al l.length cl] 59 (0, 0))) := heap_alloc_new _ _
  have SB : Hid (w.heap.size < (w.alloc (.cells #[.int .u64 (n : Int), .int .i64 i, .slice As s.length cs, .bool b, .slice Al l.length cl] 59 (0, 0))).heap.size) := by show _ < _; simp
  obtain ⟨a0, ha0⟩ : ∃ z, w.alloc (.cells #[.int .u64 (n : Int), .int .i64 i, .slice As s.length cs, .bool b, .slice Al l.length cl] 59 (0, 0)) = z := ⟨_, rfl⟩
  rw [ha0] at BB XB SB
  clear h1 h2 h5 hs hl hL h r1 r2 r3 r4 r5 hS
  go_enter Try.func36, Try.ntmps36
  obtain ⟨m0, m1, m2, m3, m4⟩ := box5 XB.out
  go_wp2_with fail
  refine (C1.out a0 BB.out).mono ?_
  rintro e w' ⟨rfl, rfl⟩
  clear ha0
  go_wp2_with fail
  refine (C2.out a0 BB.out).mono ?_
  rintro e w' ⟨rfl, rfl⟩
  go_wp2_with fail
  refine (C3.out a0 BB.out).mono ?_
  rintro e a1 ⟨u1, rfl, o1, b1⟩
  have BB2 := Lib.hid (bel_on BB.out b1)
  have XB2 : Hid (a1.heap[w.heap.size]? = some (.cells #[.int .u64 (n : Int), .int .i64 i, .slice As s.length cs, .bool b, .slice Al l.length cl] 59 (0, 0))) := (b1.block w.heap.size SB.out).trans XB.out
  have SB2 := Lib.hid (Nat.lt_of_lt_of_le SB.out b1.size)
  have c1 := conv_lit (s := S) (l := s) o1 HS.out
  have c2 := conv_of ((H3.out.below BB2.out)) HS.out
  clear m0 m1 m2 m3 m4 BB XB SB o1 b1
  obtain ⟨m0, m1, m2, m3, m4⟩ := box5 XB2.out
  go_wp2_with fail
  refine (C4.out a1 BB2.out).mono ?_
  rintro e w' ⟨rfl, rfl⟩
  go_wp2_with fail
  refine (C5.out a1 BB2.out).mono ?_
  rintro e a2 ⟨u2, rfl, o2, b2⟩
  have BB3 := Lib.hid (bel_on BB2.out b2)
  have XB3 : Hid (a2.heap[w.heap.size]? = some (.cells #[.int .u64 (n : Int), .int .i64 i, .slice As s.length cs, .bool b, .slice Al l.length cl] 59 (0, 0))) := (b2.block w.heap.size SB2.out).trans XB2.out
  have C7 := Lib.hid (C6.out u2 a2 (OwnI.lst (l := l) o2) BB3.out)
  clear m0 m1 m2 m3 m4 BB2 XB2 SB2 o2 b2 c1 c2
  obtain ⟨m0, m1, m2, m3, m4⟩ := box5 XB3.out
  go_wp2_with fail
  refine C7.out.mono ?_
  rintro e a3 ⟨rfl, b3⟩
  have BB4 := Lib.hid (bel_on BB3.out b3)
  clear b3 m0 m1 m2 m3 m4
  go_wp2_with fail
  go_ret2
  exact ⟨rfl, BB4.out⟩
end Go.Proofs.Yteojfgpinmpocaa
