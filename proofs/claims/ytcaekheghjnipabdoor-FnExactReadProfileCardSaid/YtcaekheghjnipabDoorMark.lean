/- Contracts of the laws' marks: a slice that lies in a block of its own is filled with counting numbers, and read again. -/
import Derived.Test.YtcaekheghjnipabDoorPHelp
namespace Go.Proofs.YtcaekheghjnipabDoor
open Go.ChangeShapes Go.WideShapes Go.ChangeAt Go.RowKit Go.Shelf Num
set_option linter.unusedVariables false
/-- counting numbers from k on -/
def ramp (k : Int) (n : Nat) : List Int := (List.range n).map (fun (i : Nat) => k + (i : Int))
theorem ramp_len (k : Int) (n : Nat) : (ramp k n).length = n := by simp [ramp]
theorem ramp_at (k : Int) {n i : Nat} (h : i < n) : (ramp k n).getD i 0 = k + (i : Int) := by
  unfold ramp
  rw [List.getD_eq_getElem?_getD, List.getElem?_map, List.getElem?_range h]
  rfl
theorem grown_id (w : World) (s : Option Nat) : w.grownBy w s := ⟨rfl, rfl, rfl, Nat.le_refl _, fun _ _ _ => rfl⟩
theorem grown_cell {w w' : World} {s : Nat} (h : w.grownBy w' (some s)) (i : Nat) (v : Value) : w.grownBy (w'.setCell ⟨s, i, none⟩ v) (some s) :=
  ⟨h.os, h.tape, h.output, by simpa using h.size, fun k hk hne => by
    have hks : k ≠ s := fun e => hne (by rw [e])
    rw [← h.block k hk hne]; exact Below.heap_setCell w' ⟨s, i, none⟩ v k hks⟩
/-- how far the marks have come -/
def mkTo (k : Int) (zs : List Int) (j i : Nat) : Value := if i < j then .int .i64 (k + (i : Int)) else .int .i64 (zs.getD i 0)

theorem mki_row (w : World) (g c : Nat) (k : Int) (zs : List Int) (hr : w.rowIs g 2 zs.length (cellsOf zs)) (hn : zs.length ≤ 1048576) (k0 : 0 ≤ k) (k1 : k ≤ 4000000) :
    Calls Tryd.prog 27 #[.slice (some ⟨g, 0, none⟩) zs.length c, .int .i64 k] w fun e w' => e = .returned (.int .i64 (k + (zs.length : Int))) ∧ w'.rowIs g 2 zs.length (cellsOf (ramp k zs.length)) ∧ w.grownBy w' (some g) := by
  have HR := Lib.hid hr
  clear hr
  go_enter Tryd.func27, Tryd.ntmps27
  go_wp2
  go_loopw [1, 5] (fun s i wr => ∃ j : Nat, j ≤ zs.length ∧ i = .int .i64 j ∧ s = .int .i64 (k + (j : Int)) ∧ wr.rowIs g 2 zs.length (mkTo k zs j) ∧ w.grownBy wr (some g)) (fun _ i _ => zs.length - (intOf i).toNat)
  case atStart => exact ⟨0, by omega, rfl, by simp, HR.out.congr (fun i hi => by unfold mkTo cellsOf; rw [if_neg (by omega)]), grown_id _ _⟩
  case round =>
    obtain ⟨j, hj, rfl, rfl, hrow, hg⟩ := hrel
    by_cases hlt : j < zs.length
    · have ho := hrow.cell hlt
      have hf := hrow.frozen j
      obtain ⟨u, hu⟩ : ∃ u, mkTo k zs j j = u := ⟨_, rfl⟩
      rw [hu] at ho
      have HW := Lib.hid hrow
      have HG := Lib.hid hg
      clear hrow hg hu
      go_wp2
      go_roundw
      case rel => exact ⟨j + 1, by omega, by go_num, by go_num, (HW.out.set j (.int .i64 (k + (j : Int)))).congr (fun i hi => by
        unfold mkTo
        by_cases e : i = j
        · subst e; rw [if_pos rfl, if_pos (by omega)]
        · rw [if_neg e]; by_cases h : i < j
          · rw [if_pos h, if_pos (by omega)]
          · rw [if_neg h, if_neg (by omega)]), grown_cell HG.out _ _⟩
      case measure => simp [intOf]; omega
    · obtain rfl : j = zs.length := by omega
      have HW := Lib.hid hrow
      have HG := Lib.hid hg
      clear hrow hg
      go_wp2
      go_ret
      exact ⟨rfl, HW.out.congr (fun i hi => by unfold mkTo cellsOf; rw [if_pos hi, ramp_at k hi]), HG.out⟩
theorem mki_nil (w : World) (c : Nat) (k : Int) :
    Calls Tryd.prog 27 #[.slice none 0 c, .int .i64 k] w fun e w' => e = .returned (.int .i64 k) ∧ w' = w := by
  go_enter Tryd.func27, Tryd.ntmps27
  go_wp2
  go_loopw [1, 5] (fun s i wr => i = .int .i64 0 ∧ s = .int .i64 k ∧ wr = w) (fun _ _ _ => 0)
  case atStart => exact ⟨rfl, rfl, rfl⟩
  case round =>
    obtain ⟨rfl, rfl, rfl⟩ := hrel
    go_wp2
    go_ret
    exact ⟨rfl, rfl⟩

theorem hdi_any (w : World) (B : Nat) (a : Option Addr) (c n : Nat) (k : Int) (hz : Ints .i64 w B a (ramp k n)) (hn : n ≤ 1048576) (k0 : 0 ≤ k) (k1 : k ≤ 4000000) :
    Calls Tryd.prog 28 #[.slice a n c, .int .i64 k] w fun e w' => e = .returned (.int .i64 (k + (n : Int))) ∧ w = w' := by
  go_enter Tryd.func28, Tryd.ntmps28
  go_wp2
  go_loop [1, 5] (fun s i => ∃ j : Nat, j ≤ n ∧ i = .int .i64 j ∧ s = .int .i64 (k + (j : Int))) (fun _ i => n - (intOf i).toNat)
  case atStart => exact ⟨0, by omega, rfl, by simp⟩
  case round =>
    obtain ⟨j, hj, rfl, rfl⟩ := hrel
    by_cases hlt : j < n
    · obtain ⟨b, off, rfl, hB, hc⟩ := hz.at_ (j := j) (by rw [ramp_len]; exact hlt)
      rw [ramp_at k hlt] at hc
      clear hz
      go_wp2
      go_round
      case rel => exact ⟨j + 1, by omega, by go_num, by go_num⟩
      case measure => simp [intOf]; omega
    · obtain rfl : j = n := by omega
      go_wp2
      go_ret
      exact ⟨rfl, rfl⟩
end Go.Proofs.YtcaekheghjnipabDoor
