/- Runs on the set of directions: a map of two entries, keyed by structs of three integers. -/
import Derived.Test.YtcaekheghjnipaaDir
namespace Go.Proofs.Ytcaekheghjnipaa
open Go.ChangeShapes Go.WideShapes Go.ChangeAt Go.RowKit Num
set_option linter.unusedVariables false
theorem eq3 (w : World) (a b c x y z : Int) : (Op.equal 25 (.agg #[.int .i64 a, .int .i64 b, .int .i64 c]) (.agg #[.int .i64 x, .int .i64 y, .int .i64 z])).run Try.prog w = .ok (a == x && (b == y && c == z)) w := by
  show (Op.equalIn 10000 25 (.agg #[.int .i64 a, .int .i64 b, .int .i64 c]) (.agg #[.int .i64 x, .int .i64 y, .int .i64 z])).run Try.prog w = _
  cases h1 : (a == x) <;> cases h2 : (b == y) <;> cases h3 : (c == z) <;> simp [go_sem, h1, h2, h3]
theorem ckk1 (w : World) (e : Bool) (a : Int) : (Instr.checkKey e 9999 2 (.int .i64 a)).run Try.prog w = .ok () w := MapKept.run_checkKey (n := 9998) Try.underlying2 (by simp [MapKept.IsKey]) e
theorem ck3 (w : World) (e : Bool) (a b c : Int) : (Instr.checkKey e 10000 25 (.agg #[.int .i64 a, .int .i64 b, .int .i64 c])).run Try.prog w = .ok () w := by
  rw [show (10000 : Nat) = 9998 + 1 + 1 from rfl]
  unfold Instr.checkKey
  simp [go_sem, ckk1]
/-- a map's block is written -/
def setM (w : World) (r : Nat) (o : Obj) : World := { w with heap := w.heap.setIfInBounds r o }
theorem ins1 (w : World) (r clock : Nat) (a b c : Int) (v : Value) (hb : w.heap[r]? = some (.map #[] clock)) :
    (Instr.mapUpdate 83 (.map (some r)) (.agg #[.int .i64 a, .int .i64 b, .int .i64 c]) v).run Try.prog w = .ok () (setM w r (.map #[{ key := .agg #[.int .i64 a, .int .i64 b, .int .i64 c], val := v, born := clock }] (clock + 1))) := by
  simp [Instr.mapUpdate, run_underlying Try.underlying83, MapKept.run_getObj_map hb, ck3, MapKept.run_setObj_map _ hb, Result.andThen, Instr.findKey, Instr.findNow, run_underlying Try.underlying25]
  rfl
/-- an entry of the set -/
def en3 (a b c : Int) (k : Nat) : MapEntry := { key := .agg #[.int .i64 a, .int .i64 b, .int .i64 c], val := .bool true, born := k }
theorem ins2 (w : World) (r k clock : Nat) (a b c x y z : Int) (hb : w.heap[r]? = some (.map #[en3 x y z k] clock)) (hne : (a == x && (b == y && c == z)) = false) :
    (Instr.mapUpdate 83 (.map (some r)) (.agg #[.int .i64 a, .int .i64 b, .int .i64 c]) (.bool true)).run Try.prog w = .ok () (setM w r (.map #[en3 x y z k, en3 a b c clock] (clock + 1))) := by
  simp [Instr.mapUpdate, run_underlying Try.underlying83, MapKept.run_getObj_map hb, ck3, MapKept.run_setObj_map _ hb, Result.andThen, Instr.findKey, Instr.findNow, Instr.sameNow, Instr.findAsking, en3, eq3, hne, run_underlying Try.underlying25]
  rfl
theorem look2 (w : World) (r k j clock : Nat) (a b c x y z u v t : Int) (hb : w.heap[r]? = some (.map #[en3 x y z k, en3 u v t j] clock)) :
    (Instr.lookup 83 (.map (some r)) (.agg #[.int .i64 a, .int .i64 b, .int .i64 c]) false).run Try.prog w = .ok (.bool ((a == x && (b == y && c == z)) || (a == u && (b == v && c == t)))) w := by
  have hz : (zeroValue 4).run Try.prog w = .ok (.bool false) w := by kernel_rfl
  cases h1 : (a == x && (b == y && c == z)) <;> cases h2 : (a == u && (b == v && c == t))
  all_goals simp [Instr.lookup, run_underlying Try.underlying83, MapKept.run_getObj_map hb, ck3, Result.andThen, Instr.findKey, Instr.findNow, Instr.sameNow, Instr.findAsking, en3, eq3, h1, h2, hz, run_underlying Try.underlying25]
end Go.Proofs.Ytcaekheghjnipaa
