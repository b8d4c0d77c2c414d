/- Contracts of the text of a fraction, the program's (a deferred closure writes it) and the model's. -/
import Derived.Test.YtcaekheghjnipabDoorCmp
import Derived.Test.YtcaekheghjnipabDoorTxt
import Derived.Test.YtcaekheghjnipabDoorRShelf
import Derived.Test.YtcaekheghjnipabDoorTwo
import Derived.Test.YtcaekheghjnipabDoorDraw
import Derived.Test.YtcaekheghjnipabDoorIDraw
import Derived.Test.YtcaekheghjnipabDoorSDraw
import Derived.Lib.AppendIntMem
import Derived.Deep.RegionHeld3
import Derived.Deep.RegionWith
import Derived.Deep.AppendLies
import Derived.OwnWalk
import Derived.Defers
import Derived.Recover
namespace Go.Proofs.YtcaekheghjnipabDoor
open Go.ChangeShapes Go.WideShapes Go.ChangeAt Go.RowKit Num
set_option linter.unusedVariables false
attribute [local go_sem ↓] Go.wp_at_zero Go.wp_at_succ
/-- the table that the library reads, in every later world -/
def Pow10 (w : World) : Prop := Lib.TabBelow Tryd.prog w.heap.size w "internal/strconv.uint64pow10" .u64 Lib.pow10Tab
theorem Pow10.later {w w' : World} (h : Pow10 w) (hb : Below w.heap.size w w') : Pow10 w' := fun w2 h2 => h w2 (hb.trans (h2.mono hb.size))
theorem Pow10.tab {w w' : World} {B : Nat} (h : Pow10 w) (hb : Below w.heap.size w w') (hB : w.heap.size ≤ B) : Lib.TabBelow Tryd.prog B w' "internal/strconv.uint64pow10" .u64 Lib.pow10Tab := fun w2 h2 => h w2 (hb.trans (h2.mono hB))
/-- a number in decimal -/
def numS (x : Int) : ByteArray := ⟨(Lib.itoa x).toArray⟩
theorem numS_pos {x : Int} (h : 0 ≤ x) : numS x = dstr x.toNat := by unfold numS dstr Lib.itoa; rw [if_neg (by omega)]
theorem numS_neg {x : Int} (h : x < 0) : numS x = ⟨#[45]⟩ ++ dstr x.natAbs := by
  unfold numS dstr Lib.itoa; rw [if_pos h]
  apply ByteArray.ext; simp [ByteArray.data_append]
theorem numS_size {x : Int} (h : x.natAbs < 10000000000000000000) : (numS x).size ≤ 20 := by
  by_cases hx : 0 ≤ x
  · rw [numS_pos hx]; have := dstr_size (n := x.toNat) (by omega); omega
  · rw [numS_neg (by omega), ByteArray.size_append]; have := dstr_size (n := x.natAbs) h; have : (ByteArray.mk #[45]).size = 1 := rfl; omega
/-- the text of a fraction; empty beside one that is not valid -/
def ratT (a b : Int) : ByteArray := if ratB a b then numS a ++ ⟨#[47]⟩ ++ numS b else ⟨#[]⟩
theorem ratT_no {a b : Int} (h : ratB a b = false) : ratT a b = ⟨#[]⟩ := by unfold ratT; rw [h]; rfl
theorem ratT_ok {a b : Int} (h : ratB a b = true) : ratT a b = numS a ++ ⟨#[47]⟩ ++ numS b := by unfold ratT; rw [h]; rfl
theorem numS_dec {b : Int} (h : 1 ≤ b) : dstr b.toNat = numS b := (numS_pos (by omega)).symm

end Go.Proofs.YtcaekheghjnipabDoor
