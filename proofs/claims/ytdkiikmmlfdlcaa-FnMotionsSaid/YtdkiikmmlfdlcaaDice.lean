/- Contracts of the laws' own dice: dice are a block of their own; a throw moves them on, writes nothing else, and hands back a number of its range. -/
import Derived.Test.YtdkiikmmlfdlcaaDrw
import Derived.LoopTactic
import Derived.Deep.QuietTactic
import Derived.BigQuiet
import Derived.Laws.Rows
import Derived.Outline
import Derived.Laws.Bits64b
namespace Go.Proofs.Ytdkiikmmlfdlcaa
open Go.ChangeShapes Go.WideShapes Go.ChangeAt Go.RowKit
set_option linter.unusedVariables false
/-- block s are dice -/
def Dice (w : World) (s : Nat) : Prop :=
  ∃ (a : Option Addr) (cap : Nat) (zs : List Int) (at_ : Nat) (h : Int),
    w.heap[s]? = some (.cells #[.slice a zs.length cap, .int .i64 (at_ : Int), .int .u64 h] 101 (0, 0)) ∧
    Code8 w s a zs ∧ at_ ≤ zs.length ∧ 0 ≤ h ∧ h < 18446744073709551616
/-- what a throw below n leaves -/
def Thrown (w : World) (s : Nat) (n : Int) (e : Ending) (w' : World) : Prop :=
  ∃ x : Int, e = .returned (.int .i64 x) ∧ 0 ≤ x ∧ x < n ∧ Dice w' s ∧ w.grownBy w' (some s)
theorem and24 {q : Int} (h0 : 0 ≤ q) (h1 : q < 18446744073709551616) : 0 ≤ bits BinOp.and IntKind.u64 (q / 8589934592) 16777215 ∧ bits BinOp.and IntKind.u64 (q / 8589934592) 16777215 ≤ 16777215 := by
  obtain ⟨n, rfl⟩ := Int.eq_ofNat_of_zero_le h0
  have e : ((n : Int) / 8589934592) = ((n / 8589934592 : Nat) : Int) := by omega
  rw [e, show (16777215 : Int) = ((16777215 : Nat) : Int) from rfl, bits_and_u64_nat _ _ (by omega) (by omega)]
  have : n / 8589934592 &&& 16777215 ≤ 16777215 := Nat.and_le_right
  omega
theorem wrapu_in (x : Int) : 0 ≤ IntKind.u64.wrap x ∧ IntKind.u64.wrap x < 18446744073709551616 := by rw [IntKind.wrap_u64]; omega
theorem dice_one {w : World} {s : Nat} {x y z v : Value} (hb : w.heap[s]? = some (.cells #[x, y, z] 101 (0, 0))) :
    (w.setCell ⟨s, 2, none⟩ v).heap[s]? = some (.cells #[x, y, v] 101 (0, 0)) := heap_setCell_same w s 2 _ _ _ hb
theorem dice_two {w : World} {s : Nat} {x y z v : Value} (hb : w.heap[s]? = some (.cells #[x, y, z] 101 (0, 0))) :
    (w.setCell ⟨s, 1, none⟩ v).heap[s]? = some (.cells #[x, v, z] 101 (0, 0)) := heap_setCell_same w s 1 _ _ _ hb
theorem thrown_mk {w w' : World} {s : Nat} {n x : Int} {a : Option Addr} {cap : Nat} {zs : List Int} {k : Nat} {h : Int} (hn : 1 ≤ n) (hx : 0 ≤ x) (hs : s < w.heap.size) (hg : w.grownBy w' (some s)) (hc : Code8 w s a zs)
    (hb : w'.heap[s]? = some (.cells #[.slice a zs.length cap, .int .i64 (k : Int), .int .u64 h] 101 (0, 0))) (hk : k ≤ zs.length) (h0 : 0 ≤ h) (h1 : h < 18446744073709551616) : Thrown w s n (.returned (.int .i64 (x % n))) w' :=
  ⟨_, rfl, Int.emod_nonneg _ (by omega), Int.emod_lt_of_pos _ (by omega), ⟨a, cap, zs, k, h, hb, hc.grown (by omega) hg, hk, h0, h1⟩, hg⟩

set_option maxRecDepth 100000 in
theorem bel_any (w : World) (s : Nat) (n : Int) (hn : 1 ≤ n) (h : Dice w s) :
    Calls Try.prog 24 #[.pointer (some ⟨s, 0, none⟩), .int .i64 n] w (Thrown w s n) := by
  obtain ⟨a, cap, zs, k, h, hb, hcode, hk, hs0, hs1⟩ := h
  have c0 := (cell_of_row w s 0 _ _ _ hb).trans (show _ = some (.slice a zs.length cap) from rfl)
  have c1 := (cell_of_row w s 1 _ _ _ hb).trans (show _ = some (.int .i64 (k : Int)) from rfl)
  have c2 := (cell_of_row w s 2 _ _ _ hb).trans (show _ = some (.int .u64 h) from rfl)
  have f1 := frozen_of_row w s 1 _ _ hb
  have f2 := frozen_of_row w s 2 _ _ hb
  have hslt := World.block_lt_of_cell? _ _ c0
  simp only [] at hslt
  have hl := hcode.len
  have HB := Lib.hid hb
  have HC := Lib.hid hcode
  clear hb hcode
  by_cases hlt : k < zs.length
  · obtain ⟨b, off, rfl, hlb, hcz⟩ := HC.out.ints.at_ hlt
    obtain ⟨z0, z1⟩ := HC.out.byte k hlt
    obtain ⟨z, hz⟩ : ∃ z, zs.getD k 0 = z := ⟨_, rfl⟩
    rw [hz] at hcz z0 z1
    clear hz
    have hne : ¬ b = s := by omega
    have hne2 : ¬ s = b := by omega
    have d1 : decide ((k : Int) < (zs.length : Int)) = true := by simp; omega
    have i0 : (0 : Int) ≤ (k : Int) := by omega
    clear hlb
    go_enter Try.func24, Try.ntmps24
    go_wp2
    have hq := wrapu_in (IntKind.u64.wrap (h * 6364136223846793005) + 1442695040888963407)
    generalize IntKind.u64.wrap (IntKind.u64.wrap (h * 6364136223846793005) + 1442695040888963407) = q at *
    obtain ⟨hq0, hq1⟩ := hq
    have hx := and24 hq0 hq1
    have HQ := Lib.hid (And.intro hq0 hq1)
    generalize bits BinOp.and IntKind.u64 (q / 8589934592) 16777215 = x at *
    obtain ⟨hx0, hx1⟩ := hx
    clear hq0 hq1
    have hw : wrap64 x = x := by unfold wrap64; omega
    rw [hw]
    clear hw
    go_quiet (fail)
    go_wp2
    go_quiet (fail)
    go_wp2
    go_ret
    exact thrown_mk (k := k + 1) hn (by omega) hslt (grown_set (grown_drewN (grown_set (grown_refl _ _) _ _) _) _ _) HC.out (dice_two (dice_one HB.out)) (by omega) HQ.out.1 HQ.out.2
  · have d1 : decide ((k : Int) < (zs.length : Int)) = false := by simp; omega
    go_enter Try.func24, Try.ntmps24
    go_wp2
    have hq := wrapu_in (IntKind.u64.wrap (h * 6364136223846793005) + 1442695040888963407)
    generalize IntKind.u64.wrap (IntKind.u64.wrap (h * 6364136223846793005) + 1442695040888963407) = q at *
    obtain ⟨hq0, hq1⟩ := hq
    have hx := and24 hq0 hq1
    have HQ := Lib.hid (And.intro hq0 hq1)
    generalize bits BinOp.and IntKind.u64 (q / 8589934592) 16777215 = x at *
    obtain ⟨hx0, hx1⟩ := hx
    clear hq0 hq1
    have hw : wrap64 x = x := by unfold wrap64; omega
    rw [hw]
    clear hw
    go_quiet (fail)
    go_wp2
    go_ret
    exact thrown_mk (k := k) hn (by omega) hslt (grown_drewN (grown_set (grown_refl _ _) _ _) _) HC.out (dice_one HB.out) hk HQ.out.1 HQ.out.2

/-- what the making of dice leaves -/
def Rolled (w : World) (e : Ending) (w' : World) : Prop :=
  ∃ s, e = .returned (.pointer (some ⟨s, 0, none⟩)) ∧ w.heap.size ≤ s ∧ Dice w' s ∧ Below w.heap.size w w'
set_option maxRecDepth 100000 in
theorem roll_any (w : World) (a : Option Addr) (cap : Nat) (zs : List Int) (sd : Int) (h : Code8 w w.heap.size a zs) :
    Calls Try.prog 23 #[.slice a zs.length cap, .int .u64 sd] w (Rolled w) := by
  have hl := h.len
  have HC := Lib.hid h
  clear h
  go_enter Try.func23, Try.ntmps23
  go_wp2
  go_loopw [6] (fun i wr => ∃ (k : Nat) (q : Int), k ≤ zs.length ∧ i = .int .i64 k ∧ 0 ≤ q ∧ q < 18446744073709551616 ∧ Below w.heap.size w wr ∧ wr.heap[w.heap.size]? = some (.cells #[.slice a zs.length cap, .int .i64 0, .int .u64 q] 101 (0, 0))) (fun i _ => zs.length - (intOf i).toNat)
  case atStart => exact ⟨0, _, by omega, rfl, (wrapu_in _).1, (wrapu_in _).2, (Below.refl _ _).alloc (Nat.le_refl _) _, heap_alloc_new _ _⟩
  case round =>
    obtain ⟨k, q, hk, rfl, hs0, hs1, hb, hblk⟩ := hrel
    have c2 := (cell_of_row _ _ 2 _ _ _ hblk).trans (show _ = some (.int .u64 q) from rfl)
    have f2 := frozen_of_row _ _ 2 _ _ hblk
    have HB := Lib.hid hb
    have HK := Lib.hid hblk
    clear hb hblk
    by_cases hlt : k < zs.length
    · obtain ⟨b, off, rfl, hlb, hcz⟩ := HC.out.ints.at_ hlt
      obtain ⟨z0, z1⟩ := HC.out.byte k hlt
      obtain ⟨z, hz⟩ : ∃ z, zs.getD k 0 = z := ⟨_, rfl⟩
      rw [hz] at hcz z0 z1
      clear hz
      have hcz1 := (HB.out.cell (p := ⟨b, off + k, none⟩) hlb).trans hcz
      clear hcz
      have i0 : (0 : Int) ≤ (k : Int) := by omega
      go_wp2
      go_still_tail 15, (by kernel_rfl)
      go_wp2
      go_roundw
      case rel => exact ⟨k + 1, _, by omega, by go_num, (wrapu_in _).1, (wrapu_in _).2, (HB.out.setCell (by simp) _).drew, dice_one HK.out⟩
      case measure => simp [intOf]; omega
    · go_wp2
      go_ret
      exact ⟨_, rfl, Nat.le_refl _, ⟨a, cap, zs, 0, q, HK.out, HC.out.below HB.out (Nat.le_refl _), by omega, hs0, hs1⟩, HB.out⟩
end Go.Proofs.Ytdkiikmmlfdlcaa
