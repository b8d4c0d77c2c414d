/- Contracts of the text of a fraction, the program's (a deferred closure writes it) and the model's. -/
import Derived.Test.YtkiadgmolkpgfabDoorCmp
import Derived.Test.YtkiadgmolkpgfabDoorTxt
import Derived.Test.YtkiadgmolkpgfabDoorRShelf
import Derived.Test.YtkiadgmolkpgfabDoorTwo
import Derived.Test.YtkiadgmolkpgfabDoorDraw
import Derived.Test.YtkiadgmolkpgfabDoorIDraw
import Derived.Test.YtkiadgmolkpgfabDoorSDraw
import Derived.Lib.AppendIntMem
import Derived.Deep.RegionHeld3
import Derived.Deep.RegionWith
import Derived.Deep.AppendLies
import Derived.OwnWalk
import Derived.Defers
import Derived.Recover
namespace Go.Proofs.YtkiadgmolkpgfabDoor
open Go.ChangeShapes Go.WideShapes Go.ChangeAt Go.RowKit Num
set_option linter.unusedVariables false
attribute [local go_sem ↓] Go.wp_at_zero Go.wp_at_succ
/-- the table that the library reads, in every later world -/
def Pow10 (w : World) : Prop := Lib.TabBelow Tryd.prog w.heap.size w "internal/strconv.uint64pow10" .u64 Lib.pow10Tab
theorem Pow10.later {w w' : World} (h : Pow10 w) (hb : Below w.heap.size w w') : Pow10 w' := fun w2 h2 => h w2 (hb.trans (h2.mono hb.size))
theorem Pow10.tab {w w' : World} {B : Nat} (h : Pow10 w) (hb : Below w.heap.size w w') (hB : w.heap.size ≤ B) : Lib.TabBelow Tryd.prog B w' "internal/strconv.uint64pow10" .u64 Lib.pow10Tab := fun w2 h2 => h w2 (hb.trans (h2.mono hB))
/-- a number in decimal -/
def numS (x : Int) : ByteArray := ⟨(Lib.itoa x).toArray⟩
theorem numS_pos {x : Int} (h : 0 ≤ x) : numS x = dstr x.toNat := by unfold numS dstr Lib.itoa; rw [if_neg (by omega)]
theorem numS_neg {x : Int} (h : x < 0) : numS x = ⟨#[45]⟩ ++ dstr x.natAbs := by
  unfold numS dstr Lib.itoa; rw [if_pos h]
  apply ByteArray.ext; simp [ByteArray.data_append]
theorem numS_size {x : Int} (h : x.natAbs < 10000000000000000000) : (numS x).size ≤ 20 := by
  by_cases hx : 0 ≤ x
  · rw [numS_pos hx]; have := dstr_size (n := x.toNat) (by omega); omega
  · rw [numS_neg (by omega), ByteArray.size_append]; have := dstr_size (n := x.natAbs) h; have : (ByteArray.mk #[45]).size = 1 := rfl; omega
theorem lnm_any (x : Int) (h0 : -9000000000000000000 ≤ x) (h1 : x ≤ 9000000000000000000) (w : World) :
    Calls Tryd.prog 70 #[.int .i64 x] w (Told w (numS x)) := by
  by_cases hx : x < 0
  · have H := Lib.hid (numS_neg hx)
    have s1 := dstr_size (n := x.natAbs) (by omega)
    have D := Lib.hid (fun w => dec_any 18 (-x) w (by omega) (by omega) (by omega))
    rw [show (-x).toNat = x.natAbs by omega] at D
    go_enter Tryd.func70, Tryd.ntmps70
    go_wp2_with fail
    refine (D.out _).mono ?_
    rintro e w1 ⟨rfl, hb⟩
    go_wp2_with fail
    go_ret
    exact ⟨ret_str H.out.symm, hb⟩
  · have H := Lib.hid (numS_pos (x := x) (by omega))
    have D := Lib.hid (fun w => dec_any 18 x w (by omega) (by omega) (by omega))
    go_enter Tryd.func70, Tryd.ntmps70
    go_wp2_with fail
    refine (D.out _).mono ?_
    rintro e w1 ⟨rfl, hb⟩
    go_wp2_with fail
    go_ret
    exact ⟨ret_str H.out.symm, hb⟩

/-- the text of a fraction; empty beside one that is not valid -/
def ratT (a b : Int) : ByteArray := if ratB a b then numS a ++ ⟨#[47]⟩ ++ numS b else ⟨#[]⟩
theorem ratT_no {a b : Int} (h : ratB a b = false) : ratT a b = ⟨#[]⟩ := by unfold ratT; rw [h]; rfl
theorem ratT_ok {a b : Int} (h : ratB a b = true) : ratT a b = numS a ++ ⟨#[47]⟩ ++ numS b := by unfold ratT; rw [h]; rfl
theorem numS_dec {b : Int} (h : 1 ≤ b) : dstr b.toNat = numS b := (numS_pos (by omega)).symm

set_option maxHeartbeats 2000000 in
theorem stx_any (a b : Int) (w : World) :
    Calls Tryd.prog 35 #[.agg #[.int .i64 a, .int .i64 b]] w (Told w (ratT a b)) := by
  cases ha : ratB a b
  · have H := Lib.hid (ratT_no ha)
    have HA := Lib.hid ha
    clear ha
    go_enter Tryd.func35, Tryd.ntmps35
    go_wp2_with fail
    refine (srt_is HA.out _).mono ?_
    rintro e w1 ⟨rfl, hb⟩
    have HB := Lib.hid (bel_end ((Below.refl w.heap.size w).alloc (Nat.le_refl _) _) hb)
    clear hb
    go_wp2
    go_ret
    exact ⟨ret_str H.out.symm, HB.out⟩
  · have H := Lib.hid (ratT_ok ha)
    obtain ⟨a1, a2, b1, b2, -⟩ := ratB_t ha
    have HA := Lib.hid ha
    have s1 := numS_size (x := a) (by omega)
    have s2 := numS_size (x := b) (by omega)
    have E2 := numS_dec b1
    have D := Lib.hid (fun w => dec_any 18 b w (by omega) (by omega) (by omega))
    rw [E2] at D
    clear ha E2
    go_enter Tryd.func35, Tryd.ntmps35
    go_wp2_with fail
    refine (srt_is HA.out _).mono ?_
    rintro e w1 ⟨rfl, hb⟩
    have c0 : w1.cell? ⟨w.heap.size, 0, none⟩ = some (.int .i64 a) := (hb.cell (p := ⟨w.heap.size, 0, none⟩) (by simp)).trans (by simp [go_sem])
    have c1 : w1.cell? ⟨w.heap.size, 1, none⟩ = some (.int .i64 b) := (hb.cell (p := ⟨w.heap.size, 1, none⟩) (by simp)).trans (by simp [go_sem])
    have HB := Lib.hid (bel_end ((Below.refl w.heap.size w).alloc (Nat.le_refl _) _) hb)
    clear hb
    go_wp2_with fail
    go_region_with (first
      | (go_at_call 70; refine (lnm_any _ (by omega) (by omega) _).mono ?_; rintro e wp ⟨rfl, hb⟩; have d0 := kp1 (show w1.drew.cell? _ = _ from c0) hb; have d1 := kp1 (show w1.drew.cell? _ = _ from c1) hb)
      | (go_at_call 52; refine (D.out _).mono ?_; rintro e wq ⟨rfl, hb2⟩))
    all_goals
      go_wp2_with fail
      go_ret
      exact ⟨ret_str H.out.symm, bel_end HB.out (((Below.refl _ w1).drew.trans hb).trans (hb2.mono hb.size))⟩
end Go.Proofs.YtkiadgmolkpgfabDoor
