/-
  Quotes and legs compared as a whole.
-/
import Derived.Test.YtdeofifidjbolaaIm
import Derived.WalkKit
namespace Go.Proofs.Ytdeofifidjbolaa
open Go.RowKit
set_option linter.unusedVariables false
set_option linter.unusedSimpArgs false

theorem leg_fields : (Try.prog.fieldsOf 34).toList = [{ name := "Inst", type := 3, offset := 0, embedded := false, tag := "", pkgPath := "", byteOffset := 0 }, { name := "Side", type := 3, offset := 1, embedded := false, tag := "", pkgPath := "", byteOffset := 8 }] := by
  unfold Program.fieldsOf; rw [Try.underlying34]
theorem leg_part0 (a b : Int) (W : World) : (part 3 #[.int .i64 a, .int .i64 b] 0).run Try.prog W = .ok (.int .i64 a) W := by kernel_rfl
theorem leg_part1 (a b : Int) (W : World) : (part 3 #[.int .i64 a, .int .i64 b] 1).run Try.prog W = .ok (.int .i64 b) W := by kernel_rfl
theorem leg_eq (d : Nat) (a sa b sb : Int) (W : World) : (Op.equalIn (d + 2) 34 (.agg #[.int .i64 a, .int .i64 sa]) (.agg #[.int .i64 b, .int .i64 sb])).run Try.prog W = .ok (a == b && sa == sb) W := by
  rw [run_equalIn_agg (P := Try.prog) W (d + 1) 34 _ _ (by kernel_rfl) (by kernel_rfl), leg_fields]
  by_cases h : a = b
  · subst h
    by_cases k : sa = sb
    · simp [Op.eqFields, leg_part0, leg_part1, run_equalIn_int (P := Try.prog) W d 3 .i64 .i64 _ _ Try.underlying3, k, Result.andThen]
    · simp [Op.eqFields, leg_part0, leg_part1, run_equalIn_int (P := Try.prog) W d 3 .i64 .i64 _ _ Try.underlying3, k, Result.andThen]
  · simp [Op.eqFields, leg_part0, leg_part1, run_equalIn_int (P := Try.prog) W d 3 .i64 .i64 _ _ Try.underlying3, h, Result.andThen]
theorem arr_part0 (a b c d : Int) (W : World) : (part 34 #[.int .i64 a, .int .i64 b, .int .i64 c, .int .i64 d] 0).run Try.prog W = .ok (.agg #[.int .i64 a, .int .i64 b]) W := by kernel_rfl
theorem arr_part1 (a b c d : Int) (W : World) : (part 34 #[.int .i64 a, .int .i64 b, .int .i64 c, .int .i64 d] 2).run Try.prog W = .ok (.agg #[.int .i64 c, .int .i64 d]) W := by kernel_rfl
theorem leg_size (W : World) : (sizeOf 34).run Try.prog W = .ok 2 W := by kernel_rfl
theorem arr_eq (d : Nat) (a sa b sb a' sa' b' sb' : Int) (W : World) : (Op.equalIn (d + 3) 35 (.agg #[.int .i64 a, .int .i64 sa, .int .i64 b, .int .i64 sb]) (.agg #[.int .i64 a', .int .i64 sa', .int .i64 b', .int .i64 sb'])).run Try.prog W = .ok ((a == a' && sa == sa') && (b == b' && sb == sb')) W := by
  rw [Op.equalIn]
  simp only [Sem.run_bind, run_underlying Try.underlying35, Result.andThen_ok, leg_size]
  simp only [Std.Legacy.Range.forIn_eq_forIn_range', Std.Legacy.Range.size]
  simp only [Nat.sub_zero, Nat.reduceAdd, Nat.add_one_sub_one, Nat.div_one, List.range', List.forIn_cons, List.forIn_nil, Sem.run_bind, Nat.zero_mul, Nat.one_mul, Nat.zero_add, arr_part0, arr_part1, leg_eq, Result.andThen_ok]
  cases e1 : (a == a' && sa == sa')
  · simp [Result.andThen]
  · simp only [Bool.not_true, Bool.false_eq_true, if_false, Sem.run_pure, Result.andThen_ok, Sem.run_bind, arr_part1, leg_eq]
    cases e2 : (b == b' && sb == sb') <;> simp [Result.andThen]
theorem qt_fields : (Try.prog.fieldsOf 37).toList = [{ name := "Price", type := 2, offset := 0, embedded := false, tag := "", pkgPath := "", byteOffset := 0 }, { name := "Qty", type := 2, offset := 1, embedded := false, tag := "", pkgPath := "", byteOffset := 8 }, { name := "Legs", type := 35, offset := 2, embedded := false, tag := "", pkgPath := "", byteOffset := 16 }] := by
  unfold Program.fieldsOf; rw [Try.underlying37]
theorem qt_part0 (p n a sa b sb : Int) (W : World) : (part 2 #[.int .i64 p, .int .i64 n, .int .i64 a, .int .i64 sa, .int .i64 b, .int .i64 sb] 0).run Try.prog W = .ok (.int .i64 p) W := by kernel_rfl
theorem qt_part1 (p n a sa b sb : Int) (W : World) : (part 2 #[.int .i64 p, .int .i64 n, .int .i64 a, .int .i64 sa, .int .i64 b, .int .i64 sb] 1).run Try.prog W = .ok (.int .i64 n) W := by kernel_rfl
theorem qt_part2 (p n a sa b sb : Int) (W : World) : (part 35 #[.int .i64 p, .int .i64 n, .int .i64 a, .int .i64 sa, .int .i64 b, .int .i64 sb] 2).run Try.prog W = .ok (.agg #[.int .i64 a, .int .i64 sa, .int .i64 b, .int .i64 sb]) W := by kernel_rfl
theorem qt_eq (d : Nat) (p n a sa b sb p' n' a' sa' b' sb' : Int) (W : World) : (Op.equalIn (d + 4) 37 (.agg #[.int .i64 p, .int .i64 n, .int .i64 a, .int .i64 sa, .int .i64 b, .int .i64 sb]) (.agg #[.int .i64 p', .int .i64 n', .int .i64 a', .int .i64 sa', .int .i64 b', .int .i64 sb'])).run Try.prog W = .ok (p == p' && (n == n' && ((a == a' && sa == sa') && (b == b' && sb == sb')))) W := by
  rw [run_equalIn_agg (P := Try.prog) W (d + 3) 37 _ _ (by kernel_rfl) (by kernel_rfl), qt_fields]
  cases h : (p == p')
  · simp [Op.eqFields, qt_part0, qt_part1, qt_part2, run_equalIn_int (P := Try.prog) W (d + 2) 2 .i64 .i64 _ _ Try.underlying2, h, Result.andThen]
  · cases k : (n == n')
    · simp [Op.eqFields, qt_part0, qt_part1, qt_part2, run_equalIn_int (P := Try.prog) W (d + 2) 2 .i64 .i64 _ _ Try.underlying2, h, k, Result.andThen]
    · cases e : ((a == a' && sa == sa') && (b == b' && sb == sb')) <;> simp [Op.eqFields, qt_part0, qt_part1, qt_part2, run_equalIn_int (P := Try.prog) W (d + 2) 2 .i64 .i64 _ _ Try.underlying2, arr_eq, h, k, e, Result.andThen]
theorem eql_leg (a sa b sb : Int) (W : World) : (binOp .eql 34 (.agg #[.int .i64 a, .int .i64 sa]) (.agg #[.int .i64 b, .int .i64 sb])).run Try.prog W = .ok (.bool (a == b && sa == sb)) W := by
  rw [run_eql_struct, show (10000 : Nat) = 9998 + 2 from rfl, leg_eq]; rfl
theorem neq_quote (p n a sa b sb p' n' a' sa' b' sb' : Int) (W : World) : (binOp .neq 37 (.agg #[.int .i64 p, .int .i64 n, .int .i64 a, .int .i64 sa, .int .i64 b, .int .i64 sb]) (.agg #[.int .i64 p', .int .i64 n', .int .i64 a', .int .i64 sa', .int .i64 b', .int .i64 sb'])).run Try.prog W = .ok (.bool (!(p == p' && (n == n' && ((a == a' && sa == sa') && (b == b' && sb == sb')))))) W := by
  rw [run_neq_struct, show (10000 : Nat) = 9996 + 4 from rfl, qt_eq]; rfl
end Go.Proofs.Ytdeofifidjbolaa
