/- Contracts of the model's source of draws: a source is a block of its own; a draw moves it on, writes nothing else, and hands back a number of its range. -/
import Derived.Test.YtcaekheghjnipabDoorMem
import Derived.LoopTactic
import Derived.Deep.QuietTactic
import Derived.BigQuiet
import Derived.Laws.Rows
namespace Go.Proofs.YtcaekheghjnipabDoor
open Go.ChangeShapes Go.WideShapes Go.ChangeAt Go.RowKit
set_option linter.unusedVariables false

/-- what the walk is told of a code: letters below block B -/
structure Code8 (w : World) (B : Nat) (a : Option Addr) (zs : List Int) : Prop where
  ints : Ints .u8 w B a zs
  len : zs.length ≤ 9223372036854775807
  byte : ∀ j, j < zs.length → 0 ≤ zs.getD j 0 ∧ zs.getD j 0 ≤ 255

/-- block s is a source of draws -/
def Src (w : World) (s : Nat) : Prop :=
  ∃ (a : Option Addr) (cap : Nat) (zs : List Int) (at_ : Nat) (seed : Int),
    w.heap[s]? = some (.cells #[.slice a zs.length cap, .int .i64 (at_ : Int), .int .i64 seed] 81 (0, 0)) ∧
    Code8 w s a zs ∧ at_ ≤ zs.length ∧ 0 ≤ seed ∧ seed < 2147483647


theorem Code8.below {w w' : World} {B B' : Nat} {a : Option Addr} {zs : List Int} (h : Code8 w B a zs) (hb : Below B' w w') (hB : B ≤ B') : Code8 w' B a zs :=
  ⟨fun hp => by
    obtain ⟨b, off, e, hlt, hc⟩ := h.ints hp
    exact ⟨b, off, e, hlt, fun j hj => (hb.cell (p := ⟨b, off + j, none⟩) (Nat.lt_of_lt_of_le hlt hB)).trans (hc j hj)⟩, h.len, h.byte⟩

theorem Code8.more {w : World} {B B' : Nat} {a : Option Addr} {zs : List Int} (h : Code8 w B a zs) (hB : B ≤ B') : Code8 w B' a zs := ⟨h.ints.more hB, h.len, h.byte⟩
/-- the source's block after stores into it -/
theorem grown_set {w w' : World} {s : Nat} (h : w.grownBy w' (some s)) (i : Nat) (v : Value) : w.grownBy (w'.setCell ⟨s, i, none⟩ v) (some s) :=
  ⟨h.os, h.tape, h.output, by simpa using h.size, fun k hk hne => by
    have hks : k ≠ s := fun e => hne (by rw [e])
    rw [← h.block k hk hne]; exact Below.heap_setCell w' ⟨s, i, none⟩ v k hks⟩
theorem grown_drewN {w w' : World} {s : Nat} (h : w.grownBy w' (some s)) (n : Nat) : w.grownBy (w'.drewN n) (some s) :=
  ⟨h.os, h.tape, h.output, h.size, h.block⟩
theorem grown_refl (w : World) (s : Nat) : w.grownBy w (some s) := ⟨rfl, rfl, rfl, Nat.le_refl _, fun _ _ _ => rfl⟩
theorem grown_trans {w w' w'' : World} {s : Nat} (h : w.grownBy w' (some s)) (g : w'.grownBy w'' (some s)) : w.grownBy w'' (some s) :=
  ⟨g.os.trans h.os, g.tape.trans h.tape, g.output.trans h.output, Nat.le_trans h.size g.size, fun k hk hne => (g.block k (Nat.lt_of_lt_of_le hk h.size) hne).trans (h.block k hk hne)⟩
theorem below_of_grown {w w' : World} {s B : Nat} (h : w.grownBy w' (some s)) (hB : B ≤ s) (hw : B ≤ w.heap.size) : Below B w w' :=
  ⟨h.os, h.tape, h.output, h.size, fun k hk => h.block k (Nat.lt_of_lt_of_le hk hw) (fun e => by injection e; omega)⟩

/-- what a draw below n leaves -/
def Drawn (w : World) (s : Nat) (n : Int) (e : Ending) (w' : World) : Prop :=
  ∃ x : Int, e = .returned (.int .i64 x) ∧ 0 ≤ x ∧ (1 < n → x < n) ∧ (n ≤ 1 → x = 0) ∧ Src w' s ∧ w.grownBy w' (some s)

theorem Src.lt {w : World} {s : Nat} (h : Src w s) : s < w.heap.size := by
  obtain ⟨a, cap, zs, at_, seed, hb, _⟩ := h
  exact (Array.getElem?_eq_some_iff.1 hb).1


theorem Code8.grown {w w' : World} {s : Nat} {a : Option Addr} {zs : List Int} (h : Code8 w s a zs) (hs : s ≤ w.heap.size) (hg : w.grownBy w' (some s)) : Code8 w' s a zs :=
  h.below (below_of_grown hg (Nat.le_refl _) hs) (Nat.le_refl _)
theorem heap_one {w : World} {s : Nat} {x y z v : Value} (hb : w.heap[s]? = some (.cells #[x, y, z] 81 (0, 0))) :
    (w.setCell ⟨s, 2, none⟩ v).heap[s]? = some (.cells #[x, y, v] 81 (0, 0)) := heap_setCell_same w s 2 _ _ _ hb
theorem heap_two {w : World} {s : Nat} {x y z v : Value} (hb : w.heap[s]? = some (.cells #[x, y, z] 81 (0, 0))) :
    (w.setCell ⟨s, 1, none⟩ v).heap[s]? = some (.cells #[x, v, z] 81 (0, 0)) := heap_setCell_same w s 1 _ _ _ hb
theorem drawn_mk {w w' : World} {s : Nat} {n x : Int} {a : Option Addr} {cap : Nat} {zs : List Int} {k : Nat} {seed : Int} (hn : 1 < n) (hx : 0 ≤ x) (hs : s < w.heap.size) (hg : w.grownBy w' (some s)) (hc : Code8 w s a zs)
    (hb : w'.heap[s]? = some (.cells #[.slice a zs.length cap, .int .i64 (k : Int), .int .i64 seed] 81 (0, 0))) (hk : k ≤ zs.length) (h0 : 0 ≤ seed) (h1 : seed < 2147483647) : Drawn w s n (.returned (.int .i64 (x % n))) w' :=
  ⟨_, rfl, Int.emod_nonneg _ (by omega), fun _ => Int.emod_lt_of_pos _ (by omega), fun h => by omega, ⟨a, cap, zs, k, seed, hb, hc.grown (by omega) hg, hk, h0, h1⟩, hg⟩

theorem nxt_any (w : World) (s : Nat) (n : Int) (h : Src w s) :
    Calls Tryd.prog 33 #[.pointer (some ⟨s, 0, none⟩), .int .i64 n] w (Drawn w s n) := by
  by_cases hn : n ≤ 1
  · have HS := Lib.hid h
    clear h
    go_enter Tryd.func33, Tryd.ntmps33
    go_wp2
    go_ret
    exact ⟨0, rfl, by omega, fun _ => by omega, fun _ => rfl, HS.out, grown_refl _ _⟩
  · have hslt := h.lt
    obtain ⟨a, cap, zs, k, seed, hb, hcode, hk, hs0, hs1⟩ := h
    have c0 := (cell_of_row w s 0 _ _ _ hb).trans (show _ = some (.slice a zs.length cap) from rfl)
    have c1 := (cell_of_row w s 1 _ _ _ hb).trans (show _ = some (.int .i64 (k : Int)) from rfl)
    have c2 := (cell_of_row w s 2 _ _ _ hb).trans (show _ = some (.int .i64 seed) from rfl)
    have f1 := frozen_of_row w s 1 _ _ hb
    have f2 := frozen_of_row w s 2 _ _ hb
    have hl := hcode.len
    have HB := Lib.hid hb
    have HC := Lib.hid hcode
    clear hb hcode
    by_cases hlt : k < zs.length
    · obtain ⟨b, off, rfl, hlb, hcz⟩ := HC.out.ints.at_ hlt
      obtain ⟨z0, z1⟩ := HC.out.byte k hlt
      obtain ⟨z, hz⟩ : ∃ z, zs.getD k 0 = z := ⟨_, rfl⟩
      rw [hz] at hcz z0 z1
      clear hz
      have hne : ¬ b = s := by omega
      have hne2 : ¬ s = b := by omega
      clear hlb
      have HS : 0 ≤ (seed * 48271 + 41) % 2147483647 ∧ (seed * 48271 + 41) % 2147483647 < 2147483647 := by omega
      by_cases h256 : n ≤ 256
      · have d1 : decide (n ≤ 256) = true := by simpa using h256
        by_cases hp : ((k : Int) + 1) % 2 = 0
        · have d2 : (((k : Int) + 1) % 2 == 0) = true := by simpa using hp
          have hp2 : ((k : Int) + 1) % 2 ≤ 0 := by omega
          clear hp
          go_enter Tryd.func33, Tryd.ntmps33
          go_wp2
          go_quiet (fail)
          go_wp2
          go_quiet (fail)
          go_wp2
          go_quiet (fail)
          go_wp2
          go_ret
          exact drawn_mk (k := k + 1) (by omega) (by omega) hslt (grown_drewN (grown_set (grown_drewN (grown_set (grown_refl _ _) _ _) _) _ _) _) HC.out (heap_two (heap_one HB.out)) (by omega) HS.1 HS.2
        · have d2 : (((k : Int) + 1) % 2 == 0) = false := by simpa using hp
          go_enter Tryd.func33, Tryd.ntmps33
          go_wp2
          go_quiet (fail)
          go_wp2
          go_quiet (fail)
          go_wp2
          go_ret
          exact drawn_mk (k := k + 1) (by omega) (by omega) hslt (grown_set (grown_drewN (grown_set (grown_refl _ _) _ _) _) _ _) HC.out (heap_two (heap_one HB.out)) (by omega) HS.1 HS.2
      · have d1 : decide (n ≤ 256) = false := by simpa using h256
        go_enter Tryd.func33, Tryd.ntmps33
        go_wp2
        go_quiet (fail)
        go_wp2
        go_quiet (fail)
        go_wp2
        go_ret
        exact drawn_mk (k := k + 1) (by omega) (by omega) hslt (grown_set (grown_drewN (grown_set (grown_refl _ _) _ _) _) _ _) HC.out (heap_two (heap_one HB.out)) (by omega) HS.1 HS.2
    · have HS : 0 ≤ (seed * 48271 + 41) % 2147483647 ∧ (seed * 48271 + 41) % 2147483647 < 2147483647 := by omega
      go_enter Tryd.func33, Tryd.ntmps33
      go_wp2
      go_quiet (fail)
      go_wp2
      go_ret
      exact drawn_mk (by omega) (by omega) hslt (grown_drewN (grown_set (grown_refl _ _) _ _) _) HC.out (heap_one HB.out) hk HS.1 HS.2
end Go.Proofs.YtcaekheghjnipabDoor
