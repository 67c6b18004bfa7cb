/-
  '!=' and '==' of the structs that a timetable holds: told of equal and of different ones. Condition: none.
-/
import Derived.Test.YtkhalnjgbdpfhaaGreatTtS
namespace Go.Proofs.YtkhalnjgbdpfhaaGreat
open Go.RowKit
set_option maxRecDepth 100000

theorem bs_inj {a b : ByteArray} (h : a.toList = b.toList) : a = b := by
  rcases Classical.em (a = b) with e | e
  · exact e
  · have := bytes_ne e
    rw [h] at this
    simp at this
theorem str_inj {a b : List UInt8} (h : str a = str b) : a = b := by
  have := congrArg (fun b : ByteArray => b.data.toList) h
  simpa [str] using this
theorem eqIn_7b (x1 x2 x3 x4 x5 x6 x7 y1 y2 y3 y4 y5 y6 y7 : Bool) (W : World) (m : Nat) :
    (Op.equalIn (m + 1 + 1) 65 (.agg #[.bool x1, .bool x2, .bool x3, .bool x4, .bool x5, .bool x6, .bool x7]) (.agg #[.bool y1, .bool y2, .bool y3, .bool y4, .bool y5, .bool y6, .bool y7])).run Tryz.prog W = .ok (decide (x1 = y1 ∧ x2 = y2 ∧ x3 = y3 ∧ x4 = y4 ∧ x5 = y5 ∧ x6 = y6 ∧ x7 = y7)) W := by
  have ub := Tryz.underlying4
  have ab := Tryz.isAgg4
  have zb := Tryz.sizeOf4
  have r7 : List.range' 0 7 = [0, 1, 2, 3, 4, 5, 6] := rfl
  have P : ∀ (p1 p2 p3 p4 p5 p6 p7 : Bool) (W : World), (part 4 #[.bool p1, .bool p2, .bool p3, .bool p4, .bool p5, .bool p6, .bool p7] (0 * 1)).run Tryz.prog W = .ok (.bool p1) W ∧ (part 4 #[.bool p1, .bool p2, .bool p3, .bool p4, .bool p5, .bool p6, .bool p7] (1 * 1)).run Tryz.prog W = .ok (.bool p2) W ∧ (part 4 #[.bool p1, .bool p2, .bool p3, .bool p4, .bool p5, .bool p6, .bool p7] (2 * 1)).run Tryz.prog W = .ok (.bool p3) W ∧ (part 4 #[.bool p1, .bool p2, .bool p3, .bool p4, .bool p5, .bool p6, .bool p7] (3 * 1)).run Tryz.prog W = .ok (.bool p4) W ∧ (part 4 #[.bool p1, .bool p2, .bool p3, .bool p4, .bool p5, .bool p6, .bool p7] (4 * 1)).run Tryz.prog W = .ok (.bool p5) W ∧ (part 4 #[.bool p1, .bool p2, .bool p3, .bool p4, .bool p5, .bool p6, .bool p7] (5 * 1)).run Tryz.prog W = .ok (.bool p6) W ∧ (part 4 #[.bool p1, .bool p2, .bool p3, .bool p4, .bool p5, .bool p6, .bool p7] (6 * 1)).run Tryz.prog W = .ok (.bool p7) W := by
    intro p1 p2 p3 p4 p5 p6 p7 W
    simp [part, ab]
  have E : ∀ (x y : Bool) (W : World), (Op.equalIn (m + 1) 4 (.bool x) (.bool y)).run Tryz.prog W = .ok (x == y) W := fun x y W => run_equalIn_bool W m _ x y ub
  rw [Op.equalIn]
  simp only [Sem.run_bind, run_underlying Tryz.underlying65, Result.andThen_ok, zb]
  by_cases h1 : x1 = y1
  case neg => simp [P, E, r7, h1]
  by_cases h2 : x2 = y2
  case neg => simp [P, E, r7, h1, h2]
  by_cases h3 : x3 = y3
  case neg => simp [P, E, r7, h1, h2, h3]
  by_cases h4 : x4 = y4
  case neg => simp [P, E, r7, h1, h2, h3, h4]
  by_cases h5 : x5 = y5
  case neg => simp [P, E, r7, h1, h2, h3, h4, h5]
  by_cases h6 : x6 = y6
  case neg => simp [P, E, r7, h1, h2, h3, h4, h5, h6]
  by_cases h7 : x7 = y7
  case neg => simp [P, E, r7, h1, h2, h3, h4, h5, h6, h7]
  simp [P, E, r7, h1, h2, h3, h4, h5, h6, h7]
theorem neq_st_no (x0 y0 : ByteArray) (x1 y1 : Int) (x2 y2 : Bool) (x3 y3 : Int) (h : ¬ (x0 = y0 ∧ x1 = y1 ∧ x2 = y2 ∧ x3 = y3)) (W : World) : (binOp BinOp.neq 51 (.agg #[.string x0, .int .i64 x1, .bool x2, .int .i64 x3]) (.agg #[.string y0, .int .i64 y1, .bool y2, .int .i64 y3])).run Tryz.prog W = .ok (.bool true) W := by
  go_simp
  exact fun h0 h1 h2 h3 => h ⟨bs_inj h0, h1, h2, h3⟩
theorem neq_st_same (x0 : ByteArray) (x1 : Int) (x2 : Bool) (x3 : Int) (W : World) : (binOp BinOp.neq 51 (.agg #[.string x0, .int .i64 x1, .bool x2, .int .i64 x3]) (.agg #[.string x0, .int .i64 x1, .bool x2, .int .i64 x3])).run Tryz.prog W = .ok (.bool false) W := by go_simp
theorem eql_st_no (x0 y0 : ByteArray) (x1 y1 : Int) (x2 y2 : Bool) (x3 y3 : Int) (h : ¬ (x0 = y0 ∧ x1 = y1 ∧ x2 = y2 ∧ x3 = y3)) (W : World) : (binOp BinOp.eql 51 (.agg #[.string x0, .int .i64 x1, .bool x2, .int .i64 x3]) (.agg #[.string y0, .int .i64 y1, .bool y2, .int .i64 y3])).run Tryz.prog W = .ok (.bool false) W := by
  go_simp
  exact fun h0 h1 h2 h3 => h ⟨bs_inj h0, h1, h2, h3⟩
theorem eql_st_same (x0 : ByteArray) (x1 : Int) (x2 : Bool) (x3 : Int) (W : World) : (binOp BinOp.eql 51 (.agg #[.string x0, .int .i64 x1, .bool x2, .int .i64 x3]) (.agg #[.string x0, .int .i64 x1, .bool x2, .int .i64 x3])).run Tryz.prog W = .ok (.bool true) W := by go_simp
theorem neq_ro_no (x0 y0 : ByteArray) (x1 y1 : Int) (x2 y2 : Bool) (h : ¬ (x0 = y0 ∧ x1 = y1 ∧ x2 = y2)) (W : World) : (binOp BinOp.neq 63 (.agg #[.string x0, .int .i64 x1, .bool x2]) (.agg #[.string y0, .int .i64 y1, .bool y2])).run Tryz.prog W = .ok (.bool true) W := by
  go_simp
  exact fun h0 h1 h2 => h ⟨bs_inj h0, h1, h2⟩
theorem neq_ro_same (x0 : ByteArray) (x1 : Int) (x2 : Bool) (W : World) : (binOp BinOp.neq 63 (.agg #[.string x0, .int .i64 x1, .bool x2]) (.agg #[.string x0, .int .i64 x1, .bool x2])).run Tryz.prog W = .ok (.bool false) W := by go_simp
theorem eql_ro_no (x0 y0 : ByteArray) (x1 y1 : Int) (x2 y2 : Bool) (h : ¬ (x0 = y0 ∧ x1 = y1 ∧ x2 = y2)) (W : World) : (binOp BinOp.eql 63 (.agg #[.string x0, .int .i64 x1, .bool x2]) (.agg #[.string y0, .int .i64 y1, .bool y2])).run Tryz.prog W = .ok (.bool false) W := by
  go_simp
  exact fun h0 h1 h2 => h ⟨bs_inj h0, h1, h2⟩
theorem eql_ro_same (x0 : ByteArray) (x1 : Int) (x2 : Bool) (W : World) : (binOp BinOp.eql 63 (.agg #[.string x0, .int .i64 x1, .bool x2]) (.agg #[.string x0, .int .i64 x1, .bool x2])).run Tryz.prog W = .ok (.bool true) W := by go_simp
theorem neq_ca_no (x0 y0 : ByteArray) (x1 y1 : Bool) (x2 y2 : Bool) (x3 y3 : Bool) (x4 y4 : Bool) (x5 y5 : Bool) (x6 y6 : Bool) (x7 y7 : Bool) (x8 y8 : Int) (x9 y9 : Int) (h : ¬ (x0 = y0 ∧ x1 = y1 ∧ x2 = y2 ∧ x3 = y3 ∧ x4 = y4 ∧ x5 = y5 ∧ x6 = y6 ∧ x7 = y7 ∧ x8 = y8 ∧ x9 = y9)) (W : World) : (binOp BinOp.neq 67 (.agg #[.string x0, .bool x1, .bool x2, .bool x3, .bool x4, .bool x5, .bool x6, .bool x7, .int .i64 x8, .int .i64 x9]) (.agg #[.string y0, .bool y1, .bool y2, .bool y3, .bool y4, .bool y5, .bool y6, .bool y7, .int .i64 y8, .int .i64 y9])).run Tryz.prog W = .ok (.bool true) W := by
  have E := eqIn_7b x1 x2 x3 x4 x5 x6 x7 y1 y2 y3 y4 y5 y6 y7 W 9997
  by_cases hb : x1 = y1 ∧ x2 = y2 ∧ x3 = y3 ∧ x4 = y4 ∧ x5 = y5 ∧ x6 = y6 ∧ x7 = y7
  · obtain ⟨rfl, rfl, rfl, rfl, rfl, rfl, rfl⟩ := hb
    rw [decide_eq_true ⟨rfl, rfl, rfl, rfl, rfl, rfl, rfl⟩] at E
    go_simp
    exact fun h0 h8 h9 => h ⟨bs_inj h0, rfl, rfl, rfl, rfl, rfl, rfl, rfl, h8, h9⟩
  · rw [decide_eq_false hb] at E
    clear h hb
    go_simp
theorem neq_ca_same (x0 : ByteArray) (x1 : Bool) (x2 : Bool) (x3 : Bool) (x4 : Bool) (x5 : Bool) (x6 : Bool) (x7 : Bool) (x8 : Int) (x9 : Int) (W : World) : (binOp BinOp.neq 67 (.agg #[.string x0, .bool x1, .bool x2, .bool x3, .bool x4, .bool x5, .bool x6, .bool x7, .int .i64 x8, .int .i64 x9]) (.agg #[.string x0, .bool x1, .bool x2, .bool x3, .bool x4, .bool x5, .bool x6, .bool x7, .int .i64 x8, .int .i64 x9])).run Tryz.prog W = .ok (.bool false) W := by
  have E := eqIn_7b x1 x2 x3 x4 x5 x6 x7 x1 x2 x3 x4 x5 x6 x7 W 9997
  rw [decide_eq_true ⟨rfl, rfl, rfl, rfl, rfl, rfl, rfl⟩] at E
  go_simp
theorem eql_ca_no (x0 y0 : ByteArray) (x1 y1 : Bool) (x2 y2 : Bool) (x3 y3 : Bool) (x4 y4 : Bool) (x5 y5 : Bool) (x6 y6 : Bool) (x7 y7 : Bool) (x8 y8 : Int) (x9 y9 : Int) (h : ¬ (x0 = y0 ∧ x1 = y1 ∧ x2 = y2 ∧ x3 = y3 ∧ x4 = y4 ∧ x5 = y5 ∧ x6 = y6 ∧ x7 = y7 ∧ x8 = y8 ∧ x9 = y9)) (W : World) : (binOp BinOp.eql 67 (.agg #[.string x0, .bool x1, .bool x2, .bool x3, .bool x4, .bool x5, .bool x6, .bool x7, .int .i64 x8, .int .i64 x9]) (.agg #[.string y0, .bool y1, .bool y2, .bool y3, .bool y4, .bool y5, .bool y6, .bool y7, .int .i64 y8, .int .i64 y9])).run Tryz.prog W = .ok (.bool false) W := by
  have E := eqIn_7b x1 x2 x3 x4 x5 x6 x7 y1 y2 y3 y4 y5 y6 y7 W 9997
  by_cases hb : x1 = y1 ∧ x2 = y2 ∧ x3 = y3 ∧ x4 = y4 ∧ x5 = y5 ∧ x6 = y6 ∧ x7 = y7
  · obtain ⟨rfl, rfl, rfl, rfl, rfl, rfl, rfl⟩ := hb
    rw [decide_eq_true ⟨rfl, rfl, rfl, rfl, rfl, rfl, rfl⟩] at E
    go_simp
    exact fun h0 h8 h9 => h ⟨bs_inj h0, rfl, rfl, rfl, rfl, rfl, rfl, rfl, h8, h9⟩
  · rw [decide_eq_false hb] at E
    clear h hb
    go_simp
theorem eql_ca_same (x0 : ByteArray) (x1 : Bool) (x2 : Bool) (x3 : Bool) (x4 : Bool) (x5 : Bool) (x6 : Bool) (x7 : Bool) (x8 : Int) (x9 : Int) (W : World) : (binOp BinOp.eql 67 (.agg #[.string x0, .bool x1, .bool x2, .bool x3, .bool x4, .bool x5, .bool x6, .bool x7, .int .i64 x8, .int .i64 x9]) (.agg #[.string x0, .bool x1, .bool x2, .bool x3, .bool x4, .bool x5, .bool x6, .bool x7, .int .i64 x8, .int .i64 x9])).run Tryz.prog W = .ok (.bool true) W := by
  have E := eqIn_7b x1 x2 x3 x4 x5 x6 x7 x1 x2 x3 x4 x5 x6 x7 W 9997
  rw [decide_eq_true ⟨rfl, rfl, rfl, rfl, rfl, rfl, rfl⟩] at E
  go_simp
theorem neq_ex_no (x0 y0 : Int) (x1 y1 : Int) (x2 y2 : Bool) (h : ¬ (x0 = y0 ∧ x1 = y1 ∧ x2 = y2)) (W : World) : (binOp BinOp.neq 70 (.agg #[.int .i64 x0, .int .i64 x1, .bool x2]) (.agg #[.int .i64 y0, .int .i64 y1, .bool y2])).run Tryz.prog W = .ok (.bool true) W := by
  go_simp
  exact fun h0 h1 h2 => h ⟨h0, h1, h2⟩
theorem neq_ex_same (x0 : Int) (x1 : Int) (x2 : Bool) (W : World) : (binOp BinOp.neq 70 (.agg #[.int .i64 x0, .int .i64 x1, .bool x2]) (.agg #[.int .i64 x0, .int .i64 x1, .bool x2])).run Tryz.prog W = .ok (.bool false) W := by go_simp
theorem eql_ex_no (x0 y0 : Int) (x1 y1 : Int) (x2 y2 : Bool) (h : ¬ (x0 = y0 ∧ x1 = y1 ∧ x2 = y2)) (W : World) : (binOp BinOp.eql 70 (.agg #[.int .i64 x0, .int .i64 x1, .bool x2]) (.agg #[.int .i64 y0, .int .i64 y1, .bool y2])).run Tryz.prog W = .ok (.bool false) W := by
  go_simp
  exact fun h0 h1 h2 => h ⟨h0, h1, h2⟩
theorem eql_ex_same (x0 : Int) (x1 : Int) (x2 : Bool) (W : World) : (binOp BinOp.eql 70 (.agg #[.int .i64 x0, .int .i64 x1, .bool x2]) (.agg #[.int .i64 x0, .int .i64 x1, .bool x2])).run Tryz.prog W = .ok (.bool true) W := by go_simp
theorem neq_cc_no (x0 y0 : Int) (x1 y1 : Int) (x2 y2 : Int) (x3 y3 : Bool) (x4 y4 : Bool) (h : ¬ (x0 = y0 ∧ x1 = y1 ∧ x2 = y2 ∧ x3 = y3 ∧ x4 = y4)) (W : World) : (binOp BinOp.neq 74 (.agg #[.int .i64 x0, .int .i64 x1, .int .i64 x2, .bool x3, .bool x4]) (.agg #[.int .i64 y0, .int .i64 y1, .int .i64 y2, .bool y3, .bool y4])).run Tryz.prog W = .ok (.bool true) W := by
  go_simp
  exact fun h0 h1 h2 h3 h4 => h ⟨h0, h1, h2, h3, h4⟩
theorem neq_cc_same (x0 : Int) (x1 : Int) (x2 : Int) (x3 : Bool) (x4 : Bool) (W : World) : (binOp BinOp.neq 74 (.agg #[.int .i64 x0, .int .i64 x1, .int .i64 x2, .bool x3, .bool x4]) (.agg #[.int .i64 x0, .int .i64 x1, .int .i64 x2, .bool x3, .bool x4])).run Tryz.prog W = .ok (.bool false) W := by go_simp
theorem eql_cc_no (x0 y0 : Int) (x1 y1 : Int) (x2 y2 : Int) (x3 y3 : Bool) (x4 y4 : Bool) (h : ¬ (x0 = y0 ∧ x1 = y1 ∧ x2 = y2 ∧ x3 = y3 ∧ x4 = y4)) (W : World) : (binOp BinOp.eql 74 (.agg #[.int .i64 x0, .int .i64 x1, .int .i64 x2, .bool x3, .bool x4]) (.agg #[.int .i64 y0, .int .i64 y1, .int .i64 y2, .bool y3, .bool y4])).run Tryz.prog W = .ok (.bool false) W := by
  go_simp
  exact fun h0 h1 h2 h3 h4 => h ⟨h0, h1, h2, h3, h4⟩
theorem eql_cc_same (x0 : Int) (x1 : Int) (x2 : Int) (x3 : Bool) (x4 : Bool) (W : World) : (binOp BinOp.eql 74 (.agg #[.int .i64 x0, .int .i64 x1, .int .i64 x2, .bool x3, .bool x4]) (.agg #[.int .i64 x0, .int .i64 x1, .int .i64 x2, .bool x3, .bool x4])).run Tryz.prog W = .ok (.bool true) W := by go_simp
theorem neq_fr_no (x0 y0 : Int) (x1 y1 : Int) (x2 y2 : Int) (x3 y3 : Int) (h : ¬ (x0 = y0 ∧ x1 = y1 ∧ x2 = y2 ∧ x3 = y3)) (W : World) : (binOp BinOp.neq 77 (.agg #[.int .i64 x0, .int .i64 x1, .int .i64 x2, .int .i64 x3]) (.agg #[.int .i64 y0, .int .i64 y1, .int .i64 y2, .int .i64 y3])).run Tryz.prog W = .ok (.bool true) W := by
  go_simp
  exact fun h0 h1 h2 h3 => h ⟨h0, h1, h2, h3⟩
theorem neq_fr_same (x0 : Int) (x1 : Int) (x2 : Int) (x3 : Int) (W : World) : (binOp BinOp.neq 77 (.agg #[.int .i64 x0, .int .i64 x1, .int .i64 x2, .int .i64 x3]) (.agg #[.int .i64 x0, .int .i64 x1, .int .i64 x2, .int .i64 x3])).run Tryz.prog W = .ok (.bool false) W := by go_simp
theorem eql_fr_no (x0 y0 : Int) (x1 y1 : Int) (x2 y2 : Int) (x3 y3 : Int) (h : ¬ (x0 = y0 ∧ x1 = y1 ∧ x2 = y2 ∧ x3 = y3)) (W : World) : (binOp BinOp.eql 77 (.agg #[.int .i64 x0, .int .i64 x1, .int .i64 x2, .int .i64 x3]) (.agg #[.int .i64 y0, .int .i64 y1, .int .i64 y2, .int .i64 y3])).run Tryz.prog W = .ok (.bool false) W := by
  go_simp
  exact fun h0 h1 h2 h3 => h ⟨h0, h1, h2, h3⟩
theorem eql_fr_same (x0 : Int) (x1 : Int) (x2 : Int) (x3 : Int) (W : World) : (binOp BinOp.eql 77 (.agg #[.int .i64 x0, .int .i64 x1, .int .i64 x2, .int .i64 x3]) (.agg #[.int .i64 x0, .int .i64 x1, .int .i64 x2, .int .i64 x3])).run Tryz.prog W = .ok (.bool true) W := by go_simp
theorem neq_th_no (x0 y0 : Int) (x1 y1 : Int) (h : ¬ (x0 = y0 ∧ x1 = y1)) (W : World) : (binOp BinOp.neq 80 (.agg #[.int .i64 x0, .int .i64 x1]) (.agg #[.int .i64 y0, .int .i64 y1])).run Tryz.prog W = .ok (.bool true) W := by
  go_simp
  exact fun h0 h1 => h ⟨h0, h1⟩
theorem neq_th_same (x0 : Int) (x1 : Int) (W : World) : (binOp BinOp.neq 80 (.agg #[.int .i64 x0, .int .i64 x1]) (.agg #[.int .i64 x0, .int .i64 x1])).run Tryz.prog W = .ok (.bool false) W := by go_simp
theorem eql_th_no (x0 y0 : Int) (x1 y1 : Int) (h : ¬ (x0 = y0 ∧ x1 = y1)) (W : World) : (binOp BinOp.eql 80 (.agg #[.int .i64 x0, .int .i64 x1]) (.agg #[.int .i64 y0, .int .i64 y1])).run Tryz.prog W = .ok (.bool false) W := by
  go_simp
  exact fun h0 h1 => h ⟨h0, h1⟩
theorem eql_th_same (x0 : Int) (x1 : Int) (W : World) : (binOp BinOp.eql 80 (.agg #[.int .i64 x0, .int .i64 x1]) (.agg #[.int .i64 x0, .int .i64 x1])).run Tryz.prog W = .ok (.bool true) W := by go_simp
theorem neq_gu_no (x0 y0 : Int) (x1 y1 : Int) (x2 y2 : Int) (h : ¬ (x0 = y0 ∧ x1 = y1 ∧ x2 = y2)) (W : World) : (binOp BinOp.neq 83 (.agg #[.int .i64 x0, .int .i64 x1, .int .i64 x2]) (.agg #[.int .i64 y0, .int .i64 y1, .int .i64 y2])).run Tryz.prog W = .ok (.bool true) W := by
  go_simp
  exact fun h0 h1 h2 => h ⟨h0, h1, h2⟩
theorem neq_gu_same (x0 : Int) (x1 : Int) (x2 : Int) (W : World) : (binOp BinOp.neq 83 (.agg #[.int .i64 x0, .int .i64 x1, .int .i64 x2]) (.agg #[.int .i64 x0, .int .i64 x1, .int .i64 x2])).run Tryz.prog W = .ok (.bool false) W := by go_simp
theorem eql_gu_no (x0 y0 : Int) (x1 y1 : Int) (x2 y2 : Int) (h : ¬ (x0 = y0 ∧ x1 = y1 ∧ x2 = y2)) (W : World) : (binOp BinOp.eql 83 (.agg #[.int .i64 x0, .int .i64 x1, .int .i64 x2]) (.agg #[.int .i64 y0, .int .i64 y1, .int .i64 y2])).run Tryz.prog W = .ok (.bool false) W := by
  go_simp
  exact fun h0 h1 h2 => h ⟨h0, h1, h2⟩
theorem eql_gu_same (x0 : Int) (x1 : Int) (x2 : Int) (W : World) : (binOp BinOp.eql 83 (.agg #[.int .i64 x0, .int .i64 x1, .int .i64 x2]) (.agg #[.int .i64 x0, .int .i64 x1, .int .i64 x2])).run Tryz.prog W = .ok (.bool true) W := by go_simp
theorem neq_pa_no (x0 y0 : Int) (x1 y1 : Int) (x2 y2 : Int) (x3 y3 : Bool) (h : ¬ (x0 = y0 ∧ x1 = y1 ∧ x2 = y2 ∧ x3 = y3)) (W : World) : (binOp BinOp.neq 53 (.agg #[.int .i64 x0, .int .i64 x1, .int .i64 x2, .bool x3]) (.agg #[.int .i64 y0, .int .i64 y1, .int .i64 y2, .bool y3])).run Tryz.prog W = .ok (.bool true) W := by
  go_simp
  exact fun h0 h1 h2 h3 => h ⟨h0, h1, h2, h3⟩
theorem neq_pa_same (x0 : Int) (x1 : Int) (x2 : Int) (x3 : Bool) (W : World) : (binOp BinOp.neq 53 (.agg #[.int .i64 x0, .int .i64 x1, .int .i64 x2, .bool x3]) (.agg #[.int .i64 x0, .int .i64 x1, .int .i64 x2, .bool x3])).run Tryz.prog W = .ok (.bool false) W := by go_simp
theorem eql_pa_no (x0 y0 : Int) (x1 y1 : Int) (x2 y2 : Int) (x3 y3 : Bool) (h : ¬ (x0 = y0 ∧ x1 = y1 ∧ x2 = y2 ∧ x3 = y3)) (W : World) : (binOp BinOp.eql 53 (.agg #[.int .i64 x0, .int .i64 x1, .int .i64 x2, .bool x3]) (.agg #[.int .i64 y0, .int .i64 y1, .int .i64 y2, .bool y3])).run Tryz.prog W = .ok (.bool false) W := by
  go_simp
  exact fun h0 h1 h2 h3 => h ⟨h0, h1, h2, h3⟩
theorem eql_pa_same (x0 : Int) (x1 : Int) (x2 : Int) (x3 : Bool) (W : World) : (binOp BinOp.eql 53 (.agg #[.int .i64 x0, .int .i64 x1, .int .i64 x2, .bool x3]) (.agg #[.int .i64 x0, .int .i64 x1, .int .i64 x2, .bool x3])).run Tryz.prog W = .ok (.bool true) W := by go_simp
theorem neq_pr_no (x0 y0 : ByteArray) (x1 y1 : Int) (x2 y2 : Int) (x3 y3 : Int) (x4 y4 : Int) (x5 y5 : Int) (h : ¬ (x0 = y0 ∧ x1 = y1 ∧ x2 = y2 ∧ x3 = y3 ∧ x4 = y4 ∧ x5 = y5)) (W : World) : (binOp BinOp.neq 87 (.agg #[.string x0, .int .i64 x1, .int .i64 x2, .int .i64 x3, .int .i64 x4, .int .i64 x5]) (.agg #[.string y0, .int .i64 y1, .int .i64 y2, .int .i64 y3, .int .i64 y4, .int .i64 y5])).run Tryz.prog W = .ok (.bool true) W := by
  go_simp
  exact fun h0 h1 h2 h3 h4 h5 => h ⟨bs_inj h0, h1, h2, h3, h4, h5⟩
theorem neq_pr_same (x0 : ByteArray) (x1 : Int) (x2 : Int) (x3 : Int) (x4 : Int) (x5 : Int) (W : World) : (binOp BinOp.neq 87 (.agg #[.string x0, .int .i64 x1, .int .i64 x2, .int .i64 x3, .int .i64 x4, .int .i64 x5]) (.agg #[.string x0, .int .i64 x1, .int .i64 x2, .int .i64 x3, .int .i64 x4, .int .i64 x5])).run Tryz.prog W = .ok (.bool false) W := by go_simp
theorem eql_pr_no (x0 y0 : ByteArray) (x1 y1 : Int) (x2 y2 : Int) (x3 y3 : Int) (x4 y4 : Int) (x5 y5 : Int) (h : ¬ (x0 = y0 ∧ x1 = y1 ∧ x2 = y2 ∧ x3 = y3 ∧ x4 = y4 ∧ x5 = y5)) (W : World) : (binOp BinOp.eql 87 (.agg #[.string x0, .int .i64 x1, .int .i64 x2, .int .i64 x3, .int .i64 x4, .int .i64 x5]) (.agg #[.string y0, .int .i64 y1, .int .i64 y2, .int .i64 y3, .int .i64 y4, .int .i64 y5])).run Tryz.prog W = .ok (.bool false) W := by
  go_simp
  exact fun h0 h1 h2 h3 h4 h5 => h ⟨bs_inj h0, h1, h2, h3, h4, h5⟩
theorem eql_pr_same (x0 : ByteArray) (x1 : Int) (x2 : Int) (x3 : Int) (x4 : Int) (x5 : Int) (W : World) : (binOp BinOp.eql 87 (.agg #[.string x0, .int .i64 x1, .int .i64 x2, .int .i64 x3, .int .i64 x4, .int .i64 x5]) (.agg #[.string x0, .int .i64 x1, .int .i64 x2, .int .i64 x3, .int .i64 x4, .int .i64 x5])).run Tryz.prog W = .ok (.bool true) W := by go_simp
end Go.Proofs.YtkhalnjgbdpfhaaGreat
