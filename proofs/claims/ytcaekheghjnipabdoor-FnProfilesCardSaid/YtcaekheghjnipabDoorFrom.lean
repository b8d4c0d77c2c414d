/- The contract of the model's source of draws made from a code, and of the draws built on it. -/
import Derived.Test.YtcaekheghjnipabDoorDraw
import Derived.StillTailTactics
namespace Go.Proofs.YtcaekheghjnipabDoor
open Go.ChangeShapes Go.WideShapes Go.ChangeAt Go.RowKit
set_option linter.unusedVariables false
/-- what the making of a source leaves -/
def Made (w : World) (e : Ending) (w' : World) : Prop :=
  ∃ s, e = .returned (.pointer (some ⟨s, 0, none⟩)) ∧ w.heap.size ≤ s ∧ Src w' s ∧ Below w.heap.size w w'

set_option maxRecDepth 100000 in
theorem from_any (w : World) (a : Option Addr) (cap : Nat) (zs : List Int) (h : Code8 w w.heap.size a zs) :
    Calls Tryd.prog 30 #[.slice a zs.length cap] w (Made w) := by
  have hl := h.len
  go_enter Tryd.func30, Tryd.ntmps30
  go_wp2
  go_loopw [4] (fun i wr => ∃ (k : Nat) (seed : Int), k ≤ zs.length ∧ i = .int .i64 k ∧ 0 ≤ seed ∧ seed < 2147483647 ∧ Below w.heap.size w wr ∧ wr.heap[w.heap.size]? = some (.cells #[.slice a zs.length cap, .int .i64 0, .int .i64 seed] 81 (0, 0))) (fun i _ => zs.length - (intOf i).toNat)
  case atStart => exact ⟨0, 80051, by omega, rfl, by omega, by omega, (Below.refl _ _).alloc (Nat.le_refl _) _, heap_alloc_new _ _⟩
  case round =>
    obtain ⟨k, seed, hk, rfl, hs0, hs1, hb, hblk⟩ := hrel
    have c2 := (cell_of_row _ _ 2 _ _ _ hblk).trans (show _ = some (.int .i64 seed) from rfl)
    have f2 := frozen_of_row _ _ 2 _ _ hblk
    have HB := Lib.hid hb
    have HK := Lib.hid hblk
    have HC := Lib.hid h
    clear h hb hblk
    by_cases hlt : k < zs.length
    · by_cases h64 : k < 64
      · obtain ⟨b, off, rfl, hlb, hcz⟩ := HC.out.ints.at_ hlt
        obtain ⟨z0, z1⟩ := HC.out.byte k hlt
        obtain ⟨z, hz⟩ : ∃ z, zs.getD k 0 = z := ⟨_, rfl⟩
        rw [hz] at hcz z0 z1
        clear hz
        have hcz1 := (HB.out.cell (p := ⟨b, off + k, none⟩) hlb).trans hcz
        clear hcz
        have d1 : decide ((k : Int) < 64) = true := by simp; omega
        go_wp2
        go_still_tail 15, (by kernel_rfl)
        go_wp2
        go_roundw
        case rel => exact ⟨k + 1, (seed * 61 + z) % 2147483647, by omega, by go_num, by omega, by omega, (HB.out.setCell (by simp) _).drew, heap_one HK.out⟩
        case measure => simp [intOf]; omega
      · have d1 : decide ((k : Int) < 64) = false := by simp; omega
        go_wp2
        go_ret
        exact ⟨_, rfl, Nat.le_refl _, ⟨a, cap, zs, 0, seed, HK.out, HC.out.below HB.out (Nat.le_refl _), by omega, hs0, hs1⟩, HB.out⟩
    · go_wp2
      go_ret
      exact ⟨_, rfl, Nat.le_refl _, ⟨a, cap, zs, 0, seed, HK.out, HC.out.below HB.out (Nat.le_refl _), by omega, hs0, hs1⟩, HB.out⟩

/-- what a draw of a number of whatever range leaves -/
def AnyDrawn (w : World) (s : Nat) (e : Ending) (w' : World) : Prop :=
  ∃ x : Int, e = .returned (.int .i64 x) ∧ (Lit.int .i64 x).wf = true ∧ Src w' s ∧ w.grownBy w' (some s)

/-- one of some numbers -/
def Picked (w : World) (s : Nat) (zs : List Int) (e : Ending) (w' : World) : Prop :=
  ∃ j : Nat, j < zs.length ∧ e = .returned (.int .i64 (zs.getD j 0)) ∧ Src w' s ∧ w.grownBy w' (some s)

theorem pick_any (w : World) (s b cap : Nat) (zs : List Int) (h : Src w s) (hb : ¬ b = s) (hl : 1 < zs.length) (hl2 : zs.length ≤ 1000) (hc : ∀ j, j < zs.length → w.cell? ⟨b, j, none⟩ = some (.int .i64 (zs.getD j 0))) (hlt : b < w.heap.size) :
    Calls Tryd.prog 50 #[.pointer (some ⟨s, 0, none⟩), .slice (some ⟨b, 0, none⟩) zs.length cap] w (Picked w s zs) := by
  have HC := Lib.hid hc
  have HS := Lib.hid h
  clear hc h
  go_enter Tryd.func50, Tryd.ntmps50
  go_wp2_with fail
  refine (nxt_any _ _ _ HS.out).mono ?_
  rintro e w1 ⟨x, rfl, hx0, hx1, -, hs, hg⟩
  have hx := hx1 (by omega)
  obtain ⟨j, rfl⟩ : ∃ j : Nat, x = (j : Int) := ⟨x.toNat, by omega⟩
  have hj : j < zs.length := by omega
  have hcell : w1.cell? ⟨b, j, none⟩ = some (.int .i64 (zs.getD j 0)) := (World.cell?_of_block (w := w) (a := ⟨b, j, none⟩) (hg.block b hlt (fun e => by injection e; omega))).trans (HC.out j hj)
  have HG := Lib.hid hg
  have HS1 := Lib.hid hs
  clear hx1 hg hs
  obtain ⟨y, hy⟩ : ∃ y, zs.getD j 0 = y := ⟨_, rfl⟩
  rw [hy] at hcell
  have HY := Lib.hid hy
  clear hy
  go_wp2
  go_ret
  exact ⟨j, hj, by rw [HY.out]; rfl, HS1.out, HG.out⟩

theorem wf64 {x : Int} (h : -9223372036854775808 ≤ x) (g : x ≤ 9223372036854775807) : (Lit.int .i64 x).wf = true := WalkArith.wf_i64 ⟨h, g⟩
/-- the six numbers of the first case of l01DrawValue -/
def six : List Int := [1000000000000, 1000000000001, -1000000000000, -1000000000001, 9223372036854775807, -9223372036854775808]
theorem six_wf : ∀ j, j < six.length → (Lit.int .i64 (six.getD j 0)).wf = true := by
  intro j hj
  have : j < 6 := hj
  match j, this with
  | 0, _ => exact wf64 (by decide) (by decide)
  | 1, _ => exact wf64 (by decide) (by decide)
  | 2, _ => exact wf64 (by decide) (by decide)
  | 3, _ => exact wf64 (by decide) (by decide)
  | 4, _ => exact wf64 (by decide) (by decide)
  | 5, _ => exact wf64 (by decide) (by decide)

theorem Src.alloc {w : World} {s : Nat} (h : Src w s) (o : Obj) : Src (w.alloc o) s := by
  have hlt := h.lt
  obtain ⟨a, cap, zs, k, seed, hb, hc, rest⟩ := h
  exact ⟨a, cap, zs, k, seed, (Below.heap_alloc w o s hlt).trans hb, hc.below ((Below.refl _ _).alloc (Nat.le_refl _) o) (by omega), rest⟩
theorem grown_alloc {w w' : World} {s : Nat} (h : w.grownBy w' (some s)) (o : Obj) : w.grownBy (w'.alloc o) (some s) :=
  ⟨h.os, h.tape, h.output, by have := h.size; simp; omega, fun k hk hne => (Below.heap_alloc w' o k (Nat.lt_of_lt_of_le hk h.size)).trans (h.block k hk hne)⟩
theorem pick_new (w : World) (s cap n : Nat) (zs : List Int) (cs : Array Value) (h : Src w s) (hn : zs.length = n) (hl : 1 < n) (hl2 : n ≤ 1000) (hc : ∀ j, j < n → cs[j]? = some (.int .i64 (zs.getD j 0))) :
    Calls Tryd.prog 50 #[.pointer (some ⟨s, 0, none⟩), .slice (some ⟨w.heap.size, 0, none⟩) n cap] (w.alloc (.cells cs 2)) (Picked (w.alloc (.cells cs 2)) s zs) := by
  have hlt := h.lt
  subst hn
  exact pick_any _ s _ cap zs (h.alloc _) (by omega) hl hl2 (fun j hj => (cell_of_row _ _ j _ _ _ (heap_alloc_new w _)).trans (hc j hj)) (by simp)

end Go.Proofs.YtcaekheghjnipabDoor
