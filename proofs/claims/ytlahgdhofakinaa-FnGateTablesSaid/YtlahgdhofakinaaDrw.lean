/- Contracts of the model's source of draws: a source is a block of its own; a draw moves it on, writes nothing else, and hands back a number of its range. The contract of the model's source of draws made from a code, and of the draws built on it. Contracts of the model's draws of intervals: of one, of a narrow one, of two. The contract of the model's draw of a scaled interval. Contracts of the model's draws of two intervals out of a code. Contracts of the model's draws of fractions: of one, of two, of numbers that one is made of, of one and a factor. The draw of two numbers out of a code, and how long a code is. -/
import Derived.Test.YtlahgdhofakinaaBas
import Derived.LoopTactic
import Derived.Deep.QuietTactic
import Derived.BigQuiet
import Derived.Laws.Rows
import Derived.StillTailTactics
import Derived.Outline
import Derived.Deep.RegionHeld3
import Derived.Deep.DrawnRows
import Derived.IntWalk
import Derived.Test.YtlahgdhofakinaaRts
import Derived.Deep.RegionWith
import Derived.RegionTactic
namespace Go.Proofs.Ytlahgdhofakinaa
open Go.ChangeShapes Go.WideShapes Go.ChangeAt Go.RowKit
set_option linter.unusedVariables false

/-- what the walk is told of a code: letters below block B -/
structure Code8 (w : World) (B : Nat) (a : Option Addr) (zs : List Int) : Prop where
  ints : Ints .u8 w B a zs
  len : zs.length ≤ 9223372036854775807
  byte : ∀ j, j < zs.length → 0 ≤ zs.getD j 0 ∧ zs.getD j 0 ≤ 255

/-- block s is a source of draws -/
def Src (w : World) (s : Nat) : Prop :=
  ∃ (a : Option Addr) (cap : Nat) (zs : List Int) (at_ : Nat) (seed : Int),
    w.heap[s]? = some (.cells #[.slice a zs.length cap, .int .i64 (at_ : Int), .int .i64 seed] 105 (0, 0)) ∧
    Code8 w s a zs ∧ at_ ≤ zs.length ∧ 0 ≤ seed ∧ seed < 2147483647


theorem Code8.below {w w' : World} {B B' : Nat} {a : Option Addr} {zs : List Int} (h : Code8 w B a zs) (hb : Below B' w w') (hB : B ≤ B') : Code8 w' B a zs :=
  ⟨fun hp => by
    obtain ⟨b, off, e, hlt, hc⟩ := h.ints hp
    exact ⟨b, off, e, hlt, fun j hj => (hb.cell (p := ⟨b, off + j, none⟩) (Nat.lt_of_lt_of_le hlt hB)).trans (hc j hj)⟩, h.len, h.byte⟩

theorem Code8.more {w : World} {B B' : Nat} {a : Option Addr} {zs : List Int} (h : Code8 w B a zs) (hB : B ≤ B') : Code8 w B' a zs := ⟨h.ints.more hB, h.len, h.byte⟩
/-- the source's block after stores into it -/
theorem grown_set {w w' : World} {s : Nat} (h : w.grownBy w' (some s)) (i : Nat) (v : Value) : w.grownBy (w'.setCell ⟨s, i, none⟩ v) (some s) :=
  ⟨h.os, h.tape, h.output, by simpa using h.size, fun k hk hne => by
    have hks : k ≠ s := fun e => hne (by rw [e])
    rw [← h.block k hk hne]; exact Below.heap_setCell w' ⟨s, i, none⟩ v k hks⟩
theorem grown_drewN {w w' : World} {s : Nat} (h : w.grownBy w' (some s)) (n : Nat) : w.grownBy (w'.drewN n) (some s) :=
  ⟨h.os, h.tape, h.output, h.size, h.block⟩
theorem grown_refl (w : World) (s : Nat) : w.grownBy w (some s) := ⟨rfl, rfl, rfl, Nat.le_refl _, fun _ _ _ => rfl⟩
theorem grown_trans {w w' w'' : World} {s : Nat} (h : w.grownBy w' (some s)) (g : w'.grownBy w'' (some s)) : w.grownBy w'' (some s) :=
  ⟨g.os.trans h.os, g.tape.trans h.tape, g.output.trans h.output, Nat.le_trans h.size g.size, fun k hk hne => (g.block k (Nat.lt_of_lt_of_le hk h.size) hne).trans (h.block k hk hne)⟩
theorem below_of_grown {w w' : World} {s B : Nat} (h : w.grownBy w' (some s)) (hB : B ≤ s) (hw : B ≤ w.heap.size) : Below B w w' :=
  ⟨h.os, h.tape, h.output, h.size, fun k hk => h.block k (Nat.lt_of_lt_of_le hk hw) (fun e => by injection e; omega)⟩

/-- what a draw below n leaves -/
def Drawn (w : World) (s : Nat) (n : Int) (e : Ending) (w' : World) : Prop :=
  ∃ x : Int, e = .returned (.int .i64 x) ∧ 0 ≤ x ∧ (1 < n → x < n) ∧ (n ≤ 1 → x = 0) ∧ Src w' s ∧ w.grownBy w' (some s)

theorem Src.lt {w : World} {s : Nat} (h : Src w s) : s < w.heap.size := by
  obtain ⟨a, cap, zs, at_, seed, hb, _⟩ := h
  exact (Array.getElem?_eq_some_iff.1 hb).1


theorem Code8.grown {w w' : World} {s : Nat} {a : Option Addr} {zs : List Int} (h : Code8 w s a zs) (hs : s ≤ w.heap.size) (hg : w.grownBy w' (some s)) : Code8 w' s a zs :=
  h.below (below_of_grown hg (Nat.le_refl _) hs) (Nat.le_refl _)
theorem heap_one {w : World} {s : Nat} {x y z v : Value} (hb : w.heap[s]? = some (.cells #[x, y, z] 105 (0, 0))) :
    (w.setCell ⟨s, 2, none⟩ v).heap[s]? = some (.cells #[x, y, v] 105 (0, 0)) := heap_setCell_same w s 2 _ _ _ hb
theorem heap_two {w : World} {s : Nat} {x y z v : Value} (hb : w.heap[s]? = some (.cells #[x, y, z] 105 (0, 0))) :
    (w.setCell ⟨s, 1, none⟩ v).heap[s]? = some (.cells #[x, v, z] 105 (0, 0)) := heap_setCell_same w s 1 _ _ _ hb
theorem drawn_mk {w w' : World} {s : Nat} {n x : Int} {a : Option Addr} {cap : Nat} {zs : List Int} {k : Nat} {seed : Int} (hn : 1 < n) (hx : 0 ≤ x) (hs : s < w.heap.size) (hg : w.grownBy w' (some s)) (hc : Code8 w s a zs)
    (hb : w'.heap[s]? = some (.cells #[.slice a zs.length cap, .int .i64 (k : Int), .int .i64 seed] 105 (0, 0))) (hk : k ≤ zs.length) (h0 : 0 ≤ seed) (h1 : seed < 2147483647) : Drawn w s n (.returned (.int .i64 (x % n))) w' :=
  ⟨_, rfl, Int.emod_nonneg _ (by omega), fun _ => Int.emod_lt_of_pos _ (by omega), fun h => by omega, ⟨a, cap, zs, k, seed, hb, hc.grown (by omega) hg, hk, h0, h1⟩, hg⟩

theorem nxt_any (w : World) (s : Nat) (n : Int) (h : Src w s) :
    Calls Try.prog 59 #[.pointer (some ⟨s, 0, none⟩), .int .i64 n] w (Drawn w s n) := by
  by_cases hn : n ≤ 1
  · have HS := Lib.hid h
    clear h
    go_enter Try.func59, Try.ntmps59
    go_wp2
    go_ret
    exact ⟨0, rfl, by omega, fun _ => by omega, fun _ => rfl, HS.out, grown_refl _ _⟩
  · have hslt := h.lt
    obtain ⟨a, cap, zs, k, seed, hb, hcode, hk, hs0, hs1⟩ := h
    have c0 := (cell_of_row w s 0 _ _ _ hb).trans (show _ = some (.slice a zs.length cap) from rfl)
    have c1 := (cell_of_row w s 1 _ _ _ hb).trans (show _ = some (.int .i64 (k : Int)) from rfl)
    have c2 := (cell_of_row w s 2 _ _ _ hb).trans (show _ = some (.int .i64 seed) from rfl)
    have f1 := frozen_of_row w s 1 _ _ hb
    have f2 := frozen_of_row w s 2 _ _ hb
    have hl := hcode.len
    have HB := Lib.hid hb
    have HC := Lib.hid hcode
    clear hb hcode
    by_cases hlt : k < zs.length
    · obtain ⟨b, off, rfl, hlb, hcz⟩ := HC.out.ints.at_ hlt
      obtain ⟨z0, z1⟩ := HC.out.byte k hlt
      obtain ⟨z, hz⟩ : ∃ z, zs.getD k 0 = z := ⟨_, rfl⟩
      rw [hz] at hcz z0 z1
      clear hz
      have hne : ¬ b = s := by omega
      have hne2 : ¬ s = b := by omega
      clear hlb
      have HS : 0 ≤ (seed * 48271 + 41) % 2147483647 ∧ (seed * 48271 + 41) % 2147483647 < 2147483647 := by omega
      by_cases h256 : n ≤ 256
      · have d1 : decide (n ≤ 256) = true := by simpa using h256
        by_cases hp : ((k : Int) + 1) % 2 = 0
        · have d2 : (((k : Int) + 1) % 2 == 0) = true := by simpa using hp
          have hp2 : ((k : Int) + 1) % 2 ≤ 0 := by omega
          clear hp
          go_enter Try.func59, Try.ntmps59
          go_wp2
          go_quiet (fail)
          go_wp2
          go_quiet (fail)
          go_wp2
          go_quiet (fail)
          go_wp2
          go_ret
          exact drawn_mk (k := k + 1) (by omega) (by omega) hslt (grown_drewN (grown_set (grown_drewN (grown_set (grown_refl _ _) _ _) _) _ _) _) HC.out (heap_two (heap_one HB.out)) (by omega) HS.1 HS.2
        · have d2 : (((k : Int) + 1) % 2 == 0) = false := by simpa using hp
          go_enter Try.func59, Try.ntmps59
          go_wp2
          go_quiet (fail)
          go_wp2
          go_quiet (fail)
          go_wp2
          go_ret
          exact drawn_mk (k := k + 1) (by omega) (by omega) hslt (grown_set (grown_drewN (grown_set (grown_refl _ _) _ _) _) _ _) HC.out (heap_two (heap_one HB.out)) (by omega) HS.1 HS.2
      · have d1 : decide (n ≤ 256) = false := by simpa using h256
        go_enter Try.func59, Try.ntmps59
        go_wp2
        go_quiet (fail)
        go_wp2
        go_quiet (fail)
        go_wp2
        go_ret
        exact drawn_mk (k := k + 1) (by omega) (by omega) hslt (grown_set (grown_drewN (grown_set (grown_refl _ _) _ _) _) _ _) HC.out (heap_two (heap_one HB.out)) (by omega) HS.1 HS.2
    · have HS : 0 ≤ (seed * 48271 + 41) % 2147483647 ∧ (seed * 48271 + 41) % 2147483647 < 2147483647 := by omega
      go_enter Try.func59, Try.ntmps59
      go_wp2
      go_quiet (fail)
      go_wp2
      go_ret
      exact drawn_mk (by omega) (by omega) hslt (grown_drewN (grown_set (grown_refl _ _) _ _) _) HC.out (heap_one HB.out) hk HS.1 HS.2
end Go.Proofs.Ytlahgdhofakinaa
namespace Go.Proofs.Ytlahgdhofakinaa
open Go.ChangeShapes Go.WideShapes Go.ChangeAt Go.RowKit
set_option linter.unusedVariables false
/-- what the making of a source leaves -/
def Made (w : World) (e : Ending) (w' : World) : Prop :=
  ∃ s, e = .returned (.pointer (some ⟨s, 0, none⟩)) ∧ w.heap.size ≤ s ∧ Src w' s ∧ Below w.heap.size w w'

set_option maxRecDepth 100000 in
theorem from_any (w : World) (a : Option Addr) (cap : Nat) (zs : List Int) (h : Code8 w w.heap.size a zs) :
    Calls Try.prog 58 #[.slice a zs.length cap] w (Made w) := by
  have hl := h.len
  go_enter Try.func58, Try.ntmps58
  go_wp2
  go_loopw [4] (fun i wr => ∃ (k : Nat) (seed : Int), k ≤ zs.length ∧ i = .int .i64 k ∧ 0 ≤ seed ∧ seed < 2147483647 ∧ Below w.heap.size w wr ∧ wr.heap[w.heap.size]? = some (.cells #[.slice a zs.length cap, .int .i64 0, .int .i64 seed] 105 (0, 0))) (fun i _ => zs.length - (intOf i).toNat)
  case atStart => exact ⟨0, 80051, by omega, rfl, by omega, by omega, (Below.refl _ _).alloc (Nat.le_refl _) _, heap_alloc_new _ _⟩
  case round =>
    obtain ⟨k, seed, hk, rfl, hs0, hs1, hb, hblk⟩ := hrel
    have c2 := (cell_of_row _ _ 2 _ _ _ hblk).trans (show _ = some (.int .i64 seed) from rfl)
    have f2 := frozen_of_row _ _ 2 _ _ hblk
    have HB := Lib.hid hb
    have HK := Lib.hid hblk
    have HC := Lib.hid h
    clear h hb hblk
    by_cases hlt : k < zs.length
    · by_cases h64 : k < 64
      · obtain ⟨b, off, rfl, hlb, hcz⟩ := HC.out.ints.at_ hlt
        obtain ⟨z0, z1⟩ := HC.out.byte k hlt
        obtain ⟨z, hz⟩ : ∃ z, zs.getD k 0 = z := ⟨_, rfl⟩
        rw [hz] at hcz z0 z1
        clear hz
        have hcz1 := (HB.out.cell (p := ⟨b, off + k, none⟩) hlb).trans hcz
        clear hcz
        have d1 : decide ((k : Int) < 64) = true := by simp; omega
        go_wp2
        go_still_tail 15, (by kernel_rfl)
        go_wp2
        go_roundw
        case rel => exact ⟨k + 1, (seed * 61 + z) % 2147483647, by omega, by go_num, by omega, by omega, (HB.out.setCell (by simp) _).drew, heap_one HK.out⟩
        case measure => simp [intOf]; omega
      · have d1 : decide ((k : Int) < 64) = false := by simp; omega
        go_wp2
        go_ret
        exact ⟨_, rfl, Nat.le_refl _, ⟨a, cap, zs, 0, seed, HK.out, HC.out.below HB.out (Nat.le_refl _), by omega, hs0, hs1⟩, HB.out⟩
    · go_wp2
      go_ret
      exact ⟨_, rfl, Nat.le_refl _, ⟨a, cap, zs, 0, seed, HK.out, HC.out.below HB.out (Nat.le_refl _), by omega, hs0, hs1⟩, HB.out⟩

/-- what a draw of a number of whatever range leaves -/
def AnyDrawn (w : World) (s : Nat) (e : Ending) (w' : World) : Prop :=
  ∃ x : Int, e = .returned (.int .i64 x) ∧ (Lit.int .i64 x).wf = true ∧ Src w' s ∧ w.grownBy w' (some s)

/-- one of some numbers -/
def Picked (w : World) (s : Nat) (zs : List Int) (e : Ending) (w' : World) : Prop :=
  ∃ j : Nat, j < zs.length ∧ e = .returned (.int .i64 (zs.getD j 0)) ∧ Src w' s ∧ w.grownBy w' (some s)

theorem pick_any (w : World) (s b cap : Nat) (zs : List Int) (h : Src w s) (hb : ¬ b = s) (hl : 1 < zs.length) (hl2 : zs.length ≤ 1000) (hc : ∀ j, j < zs.length → w.cell? ⟨b, j, none⟩ = some (.int .i64 (zs.getD j 0))) (hlt : b < w.heap.size) :
    Calls Try.prog 97 #[.pointer (some ⟨s, 0, none⟩), .slice (some ⟨b, 0, none⟩) zs.length cap] w (Picked w s zs) := by
  have HC := Lib.hid hc
  have HS := Lib.hid h
  clear hc h
  go_enter Try.func97, Try.ntmps97
  go_wp2_with fail
  refine (nxt_any _ _ _ HS.out).mono ?_
  rintro e w1 ⟨x, rfl, hx0, hx1, -, hs, hg⟩
  have hx := hx1 (by omega)
  obtain ⟨j, rfl⟩ : ∃ j : Nat, x = (j : Int) := ⟨x.toNat, by omega⟩
  have hj : j < zs.length := by omega
  have hcell : w1.cell? ⟨b, j, none⟩ = some (.int .i64 (zs.getD j 0)) := (World.cell?_of_block (w := w) (a := ⟨b, j, none⟩) (hg.block b hlt (fun e => by injection e; omega))).trans (HC.out j hj)
  have HG := Lib.hid hg
  have HS1 := Lib.hid hs
  clear hx1 hg hs
  obtain ⟨y, hy⟩ : ∃ y, zs.getD j 0 = y := ⟨_, rfl⟩
  rw [hy] at hcell
  have HY := Lib.hid hy
  clear hy
  go_wp2
  go_ret
  exact ⟨j, hj, by rw [HY.out]; rfl, HS1.out, HG.out⟩

theorem wf64 {x : Int} (h : -9223372036854775808 ≤ x) (g : x ≤ 9223372036854775807) : (Lit.int .i64 x).wf = true := WalkArith.wf_i64 ⟨h, g⟩
/-- the six numbers of the first case of l01DrawValue -/
def six : List Int := [1000000000000, 1000000000001, -1000000000000, -1000000000001, 9223372036854775807, -9223372036854775808]
theorem six_wf : ∀ j, j < six.length → (Lit.int .i64 (six.getD j 0)).wf = true := by
  intro j hj
  have : j < 6 := hj
  match j, this with
  | 0, _ => exact wf64 (by decide) (by decide)
  | 1, _ => exact wf64 (by decide) (by decide)
  | 2, _ => exact wf64 (by decide) (by decide)
  | 3, _ => exact wf64 (by decide) (by decide)
  | 4, _ => exact wf64 (by decide) (by decide)
  | 5, _ => exact wf64 (by decide) (by decide)

theorem Src.alloc {w : World} {s : Nat} (h : Src w s) (o : Obj) : Src (w.alloc o) s := by
  have hlt := h.lt
  obtain ⟨a, cap, zs, k, seed, hb, hc, rest⟩ := h
  exact ⟨a, cap, zs, k, seed, (Below.heap_alloc w o s hlt).trans hb, hc.below ((Below.refl _ _).alloc (Nat.le_refl _) o) (by omega), rest⟩
theorem grown_alloc {w w' : World} {s : Nat} (h : w.grownBy w' (some s)) (o : Obj) : w.grownBy (w'.alloc o) (some s) :=
  ⟨h.os, h.tape, h.output, by have := h.size; simp; omega, fun k hk hne => (Below.heap_alloc w' o k (Nat.lt_of_lt_of_le hk h.size)).trans (h.block k hk hne)⟩
theorem pick_new (w : World) (s cap n : Nat) (zs : List Int) (cs : Array Value) (h : Src w s) (hn : zs.length = n) (hl : 1 < n) (hl2 : n ≤ 1000) (hc : ∀ j, j < n → cs[j]? = some (.int .i64 (zs.getD j 0))) :
    Calls Try.prog 97 #[.pointer (some ⟨s, 0, none⟩), .slice (some ⟨w.heap.size, 0, none⟩) n cap] (w.alloc (.cells cs 2)) (Picked (w.alloc (.cells cs 2)) s zs) := by
  have hlt := h.lt
  subst hn
  exact pick_any _ s _ cap zs (h.alloc _) (by omega) hl hl2 (fun j hj => (cell_of_row _ _ j _ _ _ (heap_alloc_new w _)).trans (hc j hj)) (by simp)

end Go.Proofs.Ytlahgdhofakinaa
namespace Go.Proofs.Ytlahgdhofakinaa
open Go.ChangeShapes Go.WideShapes Go.ChangeAt Go.RowKit
set_option linter.unusedVariables false
/-- what a draw of an interval leaves -/
def IvDrawn (w : World) (s : Nat) (e : Ending) (w' : World) : Prop :=
  ∃ x y : Int, e = .returned (.agg #[.int .i64 x, .int .i64 y]) ∧ ((Lit.int .i64 x).wf = true ∧ (Lit.int .i64 y).wf = true) ∧ Src w' s ∧ w.grownBy w' (some s)
/-- block g begins with two zeros that may be written -/
def Rzz (w : World) (g : Nat) : Prop := (w.cell? ⟨g, 0, none⟩ = some (.int .i64 0) ∧ w.cell? ⟨g, 1, none⟩ = some (.int .i64 0)) ∧ w.frozen? ⟨g, 0, none⟩ = false ∧ w.frozen? ⟨g, 1, none⟩ = false
theorem grown_al {w w' : World} {s : Nat} (h : w.grownBy w' (some s)) (o : Obj) : w.grownBy (w'.alloc o) (some s) := grown_alloc h o
theorem rules_grown {w w' : World} {s : Nat} (h : w.grownBy w' (some s)) : (∀ b o, b < w.heap.size → (b == s) = false → w'.cell? ⟨b, o, none⟩ = w.cell? ⟨b, o, none⟩) ∧ (∀ b o, b < w.heap.size → (b == s) = false → w'.frozen? ⟨b, o, none⟩ = w.frozen? ⟨b, o, none⟩) := by
  refine ⟨fun b o hb hs => ?_, fun b o hb hs => ?_⟩
  · exact World.cell?_of_block (w := w) (a := ⟨b, o, none⟩) (h.block b hb (fun e => by injection e with e; subst e; simp at hs))
  · have := h.block b hb (fun e => by injection e with e; subst e; simp at hs)
    simp only [World.frozen?, this]

theorem Src.set_far {w : World} {s : Nat} {p : Addr} (h : Src w s) (hp : s < p.block) (v : Value) : Src (w.setCell p v) s := by
  obtain ⟨a, cap, zs, k, seed, hb, hc, rest⟩ := h
  exact ⟨a, cap, zs, k, seed, (Below.heap_setCell w p v s (by omega)).trans hb, hc.below (B' := s) ((Below.refl _ _).setCell (by omega) v) (Nat.le_refl _), rest⟩
theorem grown_set_new {w w' : World} {s : Nat} {p : Addr} (h : w.grownBy w' (some s)) (hp : w.heap.size ≤ p.block) (v : Value) : w.grownBy (w'.setCell p v) (some s) :=
  ⟨h.os, h.tape, h.output, by simpa using h.size, fun k hk hne => (Below.heap_setCell w' p v k (by omega)).trans (h.block k hk hne)⟩
/-- a new block of two zeros, read and written in a later world -/
theorem zero_in {w w1 : World} {s : Nat} {t : TypeId} (h : (w.alloc (.cells #[.int .i64 0, .int .i64 0] t)).grownBy w1 (some s)) (hs : s < w.heap.size) : Rzz w1 w.heap.size := by
  obtain ⟨hc, hf⟩ := rules_grown h
  have hne : (w.heap.size == s) = false := by simp; omega
  exact ⟨⟨(hc _ _ (by simp) hne).trans (by simp [go_sem]), (hc _ _ (by simp) hne).trans (by simp [go_sem])⟩, (hf _ _ (by simp) hne).trans (by simp [go_sem]), (hf _ _ (by simp) hne).trans (by simp [go_sem])⟩
theorem Rzz.keep {w w1 : World} {s g : Nat} (h : Rzz w g) (hg : w.grownBy w1 (some s)) (hs : s < g) : Rzz w1 g := by
  obtain ⟨hc, hf⟩ := rules_grown hg
  have hne : (g == s) = false := by simp; omega
  have hl := World.block_lt_of_cell? w _ h.1.1
  exact ⟨⟨(hc _ _ hl hne).trans h.1.1, (hc _ _ hl hne).trans h.1.2⟩, (hf _ _ hl hne).trans h.2.1, (hf _ _ hl hne).trans h.2.2⟩

/-- what a draw of two intervals leaves -/
def Iv2Drawn (w : World) (s : Nat) (e : Ending) (w' : World) : Prop :=
  ∃ x y u v : Int, e = .returned (.tuple #[.agg #[.int .i64 x, .int .i64 y], .agg #[.int .i64 u, .int .i64 v]]) ∧ ((Lit.int .i64 x).wf = true ∧ (Lit.int .i64 y).wf = true) ∧ ((Lit.int .i64 u).wf = true ∧ (Lit.int .i64 v).wf = true) ∧ Src w' s ∧ w.grownBy w' (some s)
theorem zero_in2 {w w1 : World} {s : Nat} {o : Obj} {t : TypeId} (h : ((w.alloc (.cells #[.int .i64 0, .int .i64 0] t)).alloc o).grownBy w1 (some s)) (hs : s < w.heap.size) : Rzz w1 w.heap.size :=
  zero_in (grown_trans (grown_alloc (grown_refl _ s) o) h) hs
end Go.Proofs.Ytlahgdhofakinaa
namespace Go.Proofs.Ytlahgdhofakinaa
open Go.ChangeShapes Go.WideShapes Go.ChangeAt Go.RowKit
set_option linter.unusedVariables false
attribute [local go_sem ↓] Go.wp_at_zero Go.wp_at_succ
/-- what a draw of an interval and two numbers leaves -/
def ScDrawn (w : World) (e : Ending) (w' : World) : Prop :=
  ∃ x y n d : Int, e = .returned (.tuple #[.agg #[.int .i64 x, .int .i64 y], .int .i64 n, .int .i64 d]) ∧ Below w.heap.size w w'
theorem Code8.drew {w : World} {B : Nat} {a : Option Addr} {zs : List Int} (h : Code8 w B a zs) : Code8 w.drew B a zs := ⟨h.ints, h.len, h.byte⟩
theorem Src.drew {w : World} {s : Nat} (h : Src w s) : Src w.drew s := by
  obtain ⟨a, cap, zs, k, seed, hb, hc, rest⟩ := h
  exact ⟨a, cap, zs, k, seed, hb, hc.drew, rest⟩
theorem Rzz.drew {w : World} {g : Nat} (h : Rzz w g) : Rzz w.drew g := h
theorem kz {w w2 : World} {g : Nat} (h : Rzz w g) (hb : Below w.heap.size w w2) : Rzz w2 g := by
  have hl := World.block_lt_of_cell? w _ h.1.1
  exact ⟨⟨(hb.cell (p := ⟨g, 0, none⟩) hl).trans h.1.1, (hb.cell (p := ⟨g, 1, none⟩) hl).trans h.1.2⟩, (hb.frozen (p := ⟨g, 0, none⟩) hl).trans h.2.1, (hb.frozen (p := ⟨g, 1, none⟩) hl).trans h.2.2⟩
theorem Rzz.keep2 {w w1 : World} {s g : Nat} (h : Rzz w g) (hg : w.grownBy w1 (some s)) (hs : g ≠ s) : Rzz w1 g := by
  obtain ⟨hc, hf⟩ := rules_grown hg
  have hne : (g == s) = false := by simpa using hs
  have hl := World.block_lt_of_cell? w _ h.1.1
  exact ⟨⟨(hc _ _ hl hne).trans h.1.1, (hc _ _ hl hne).trans h.1.2⟩, (hf _ _ hl hne).trans h.2.1, (hf _ _ hl hne).trans h.2.2⟩
theorem cell_keep {w w1 : World} {s g o : Nat} {v : Value} (h : w.cell? ⟨g, o, none⟩ = some v) (hg : w.grownBy w1 (some s)) (hs : g ≠ s) : w1.cell? ⟨g, o, none⟩ = some v :=
  ((rules_grown hg).1 _ _ (World.block_lt_of_cell? w _ h) (by simpa using hs)).trans h
theorem below_refl2 (w : World) (o p : Obj) : Below w.heap.size w ((w.alloc o).alloc p) := ((Below.refl _ _).alloc (Nat.le_refl _) _).alloc (by simp) _
theorem below_src {B : Nat} {w w1 w2 : World} {s : Nat} (h : Below B w w1) (hg : w1.grownBy w2 (some s)) (hB : B ≤ s) (hw : B ≤ w.heap.size) : Below B w w2 := h.trans (below_of_grown hg hB (Nat.le_trans hw h.size))

/-- the source, the result's block and the old blocks, in a later world of a draw -/
def Ctx (w wq : World) (s : Nat) : Prop := Src wq s ∧ Rzz wq w.heap.size ∧ Below w.heap.size w wq ∧ w.heap.size < s
theorem Ctx.drew {w wq : World} {s : Nat} (h : Ctx w wq s) : Ctx w wq.drew s := ⟨h.1.drew, h.2.1.drew, h.2.2.1.drew, h.2.2.2⟩
theorem Ctx.alloc {w wq : World} {s : Nat} (h : Ctx w wq s) (o : Obj) : Ctx w (wq.alloc o) s :=
  ⟨h.1.alloc o, kz h.2.1 ((Below.refl _ _).alloc (Nat.le_refl _) o), h.2.2.1.alloc h.2.2.1.size o, h.2.2.2⟩
theorem Ctx.src {w wq : World} {s : Nat} (h : Ctx w wq s) : Src wq s := h.1
theorem Ctx.next {w wq wr : World} {s : Nat} (h : Ctx w wq s) (hs : Src wr s) (hg : wq.grownBy wr (some s)) : Ctx w wr s :=
  ⟨hs, h.2.1.keep2 hg (by have := h.2.2.2; omega), below_src h.2.2.1 hg (Nat.le_of_lt h.2.2.2) (Nat.le_refl _), h.2.2.2⟩
theorem heap_at_new {w : World} {o : Obj} {b : Nat} (e : b = w.heap.size) : (w.alloc o).heap[b]? = some o := by subst e; exact heap_alloc_new w o
theorem pick_n (w : World) (s b cap n : Nat) (zs : List Int) (h : Src w s) (hn : zs.length = n) (hb : ¬ b = s) (hl : 1 < n) (hl2 : n ≤ 1000) (hc : ∀ j, j < n → w.cell? ⟨b, j, none⟩ = some (.int .i64 (zs.getD j 0))) (hlt : b < w.heap.size) :
    Calls Try.prog 97 #[.pointer (some ⟨s, 0, none⟩), .slice (some ⟨b, 0, none⟩) n cap] w (Picked w s zs) := by
  subst hn
  exact pick_any w s b cap zs h hb hl hl2 hc hlt
def five : List Int := [1000000, 1000001, -1000000, -1000001, 3]
theorem pick_five (w : World) (s b cap : Nat) (h : Src w s) (hb : ¬ b = s) (hk : w.heap[b]? = some (.cells #[.int .i64 1000000, .int .i64 1000001, .int .i64 (-1000000), .int .i64 (-1000001), .int .i64 3] 2 (0, 0))) :
    Calls Try.prog 97 #[.pointer (some ⟨s, 0, none⟩), .slice (some ⟨b, 0, none⟩) 5 cap] w (Picked w s five) :=
  pick_n w s b cap 5 five h rfl hb (by decide) (by decide) (fun j hj => (cell_of_row w b j _ _ _ hk).trans (match j, hj with
    | 0, _ => rfl
    | 1, _ => rfl
    | 2, _ => rfl
    | 3, _ => rfl
    | 4, _ => rfl)) (by obtain ⟨hlt, _⟩ := Array.getElem?_eq_some_iff.1 hk; exact hlt)
def four : List Int := [0, 1, 1000000, 1000001]
theorem pick_four (w : World) (s b cap : Nat) (h : Src w s) (hb : ¬ b = s) (hk : w.heap[b]? = some (.cells #[.int .i64 0, .int .i64 1, .int .i64 1000000, .int .i64 1000001] 2 (0, 0))) :
    Calls Try.prog 97 #[.pointer (some ⟨s, 0, none⟩), .slice (some ⟨b, 0, none⟩) 4 cap] w (Picked w s four) :=
  pick_n w s b cap 4 four h rfl hb (by decide) (by decide) (fun j hj => (cell_of_row w b j _ _ _ hk).trans (match j, hj with
    | 0, _ => rfl
    | 1, _ => rfl
    | 2, _ => rfl
    | 3, _ => rfl)) (by obtain ⟨hlt, _⟩ := Array.getElem?_eq_some_iff.1 hk; exact hlt)
end Go.Proofs.Ytlahgdhofakinaa
namespace Go.Proofs.Ytlahgdhofakinaa
open Go.ChangeShapes Go.WideShapes Go.ChangeAt Go.RowKit
set_option linter.unusedVariables false
/-- what a draw of two intervals out of a code leaves -/
def TwoIv (w : World) (e : Ending) (w' : World) : Prop :=
  ∃ x y u v : Int, e = .returned (.tuple #[.agg #[.int .i64 x, .int .i64 y], .agg #[.int .i64 u, .int .i64 v]]) ∧ Below w.heap.size w w'
/-- the source, two results' blocks and the old blocks, in a later world of a draw -/
def Ctx2 (w wq : World) (s : Nat) : Prop := Src wq s ∧ (Rzz wq w.heap.size ∧ Rzz wq (w.heap.size + 1)) ∧ Below w.heap.size w wq ∧ w.heap.size + 1 < s
theorem Ctx2.alloc {w wq : World} {s : Nat} (h : Ctx2 w wq s) (o : Obj) : Ctx2 w (wq.alloc o) s :=
  ⟨h.1.alloc o, ⟨kz h.2.1.1 ((Below.refl _ _).alloc (Nat.le_refl _) o), kz h.2.1.2 ((Below.refl _ _).alloc (Nat.le_refl _) o)⟩, h.2.2.1.alloc h.2.2.1.size o, h.2.2.2⟩
theorem Ctx2.next {w wq wr : World} {s : Nat} (h : Ctx2 w wq s) (hs : Src wr s) (hg : wq.grownBy wr (some s)) : Ctx2 w wr s :=
  ⟨hs, ⟨h.2.1.1.keep2 hg (by have := h.2.2.2; omega), h.2.1.2.keep2 hg (by have := h.2.2.2; omega)⟩, below_src h.2.2.1 hg (by have := h.2.2.2; omega) (Nat.le_refl _), h.2.2.2⟩
/-- the start: the results' blocks are made, then the source -/
theorem ctx2_start {w w1 : World} {s : Nat} (hs : ((w.alloc (.cells #[.int .i64 0, .int .i64 0] 81)).alloc (.cells #[.int .i64 0, .int .i64 0] 81)).heap.size ≤ s) (hsrc : Src w1 s)
    (hb : Below ((w.alloc (.cells #[.int .i64 0, .int .i64 0] 81)).alloc (.cells #[.int .i64 0, .int .i64 0] 81)).heap.size ((w.alloc (.cells #[.int .i64 0, .int .i64 0] 81)).alloc (.cells #[.int .i64 0, .int .i64 0] 81)) w1) : Ctx2 w w1 s :=
  ⟨hsrc, ⟨kz ⟨⟨by simp [go_sem], by simp [go_sem]⟩, by simp [go_sem], by simp [go_sem]⟩ hb, kz ⟨⟨by simp [go_sem], by simp [go_sem]⟩, by simp [go_sem], by simp [go_sem]⟩ hb⟩, bel_end (below_refl2 _ _ _) hb, by simp at hs; omega⟩
theorem ctx2_end {w wq : World} {s : Nat} {a b c d : Value} (h : Ctx2 w wq s) : Below w.heap.size w ((((wq.setCell ⟨w.heap.size, 0, none⟩ a).setCell ⟨w.heap.size, 1, none⟩ b).setCell ⟨w.heap.size + 1, 0, none⟩ c).setCell ⟨w.heap.size + 1, 1, none⟩ d) :=
  (((h.2.2.1.setCell (Nat.le_refl _) _).setCell (Nat.le_refl _) _).setCell (Nat.le_succ _) _).setCell (Nat.le_succ _) _
def three : List Int := [-1000001, -1000000, 0]
theorem pick_three (w : World) (s b cap : Nat) (h : Src w s) (hb : ¬ b = s) (hk : w.heap[b]? = some (.cells #[.int .i64 (-1000001), .int .i64 (-1000000), .int .i64 0] 2 (0, 0))) :
    Calls Try.prog 97 #[.pointer (some ⟨s, 0, none⟩), .slice (some ⟨b, 0, none⟩) 3 cap] w (Picked w s three) :=
  pick_n w s b cap 3 three h rfl hb (by decide) (by decide) (fun j hj => (cell_of_row w b j _ _ _ hk).trans (match j, hj with
    | 0, _ => rfl
    | 1, _ => rfl
    | 2, _ => rfl)) (by obtain ⟨hlt, _⟩ := Array.getElem?_eq_some_iff.1 hk; exact hlt)
def pair : List Int := [1000000, 1000001]
theorem pick_pair (w : World) (s b cap : Nat) (h : Src w s) (hb : ¬ b = s) (hk : w.heap[b]? = some (.cells #[.int .i64 1000000, .int .i64 1000001] 2 (0, 0))) :
    Calls Try.prog 97 #[.pointer (some ⟨s, 0, none⟩), .slice (some ⟨b, 0, none⟩) 2 cap] w (Picked w s pair) :=
  pick_n w s b cap 2 pair h rfl hb (by decide) (by decide) (fun j hj => (cell_of_row w b j _ _ _ hk).trans (match j, hj with
    | 0, _ => rfl
    | 1, _ => rfl)) (by obtain ⟨hlt, _⟩ := Array.getElem?_eq_some_iff.1 hk; exact hlt)
end Go.Proofs.Ytlahgdhofakinaa
namespace Go.Proofs.Ytlahgdhofakinaa
open Go.ChangeShapes Go.WideShapes Go.ChangeAt Go.RowKit
set_option linter.unusedVariables false
theorem Src.bel {w w' : World} {s : Nat} (h : Src w s) (hb : Below w.heap.size w w') : Src w' s := by
  have hlt := h.lt
  obtain ⟨a, cap, zs, k, seed, hblk, hc, rest⟩ := h
  exact ⟨a, cap, zs, k, seed, (hb.block s hlt).trans hblk, hc.below (hb.mono (Nat.le_of_lt hlt)) (Nat.le_refl _), rest⟩
theorem grown_bel {W wr w' : World} {s : Nat} (h : W.grownBy wr (some s)) (hb : Below wr.heap.size wr w') : W.grownBy w' (some s) :=
  ⟨hb.os.trans h.os, hb.tape.trans h.tape, hb.output.trans h.output, Nat.le_trans h.size hb.size, fun k hk hne => (hb.block k (Nat.lt_of_lt_of_le hk h.size)).trans (h.block k hk hne)⟩
/-- one number is picked -/
def Some1 (w : World) (s : Nat) (e : Ending) (w' : World) : Prop := ∃ x : Int, e = .returned (.int .i64 x) ∧ Src w' s ∧ w.grownBy w' (some s)
theorem pick_some (w : World) (s b cap n : Nat) (zs : List Int) (h : Src w s) (hn : zs.length = n) (hb : ¬ b = s) (hl : 1 < n) (hl2 : n ≤ 1000) (hc : ∀ j, j < n → w.cell? ⟨b, j, none⟩ = some (.int .i64 (zs.getD j 0))) (hlt : b < w.heap.size) :
    Calls Try.prog 97 #[.pointer (some ⟨s, 0, none⟩), .slice (some ⟨b, 0, none⟩) n cap] w (Some1 w s) :=
  (pick_n w s b cap n zs h hn hb hl hl2 hc hlt).mono fun e w' ⟨j, _, he, hs, hg⟩ => ⟨_, he, hs, hg⟩
theorem pick4 (w : World) (s b cap : Nat) (z0 z1 z2 z3 : Int) (h : Src w s) (hb : ¬ b = s) (hk : w.heap[b]? = some (.cells #[.int .i64 z0, .int .i64 z1, .int .i64 z2, .int .i64 z3] 2 (0, 0))) :
    Calls Try.prog 97 #[.pointer (some ⟨s, 0, none⟩), .slice (some ⟨b, 0, none⟩) 4 cap] w (Some1 w s) :=
  pick_some w s b cap 4 [z0, z1, z2, z3] h rfl hb (by decide) (by decide) (fun j hj => (cell_of_row w b j _ _ _ hk).trans (match j, hj with
    | 0, _ => rfl
    | 1, _ => rfl
    | 2, _ => rfl
    | 3, _ => rfl)) (by obtain ⟨hlt, _⟩ := Array.getElem?_eq_some_iff.1 hk; exact hlt)
theorem pick3 (w : World) (s b cap : Nat) (z0 z1 z2 : Int) (h : Src w s) (hb : ¬ b = s) (hk : w.heap[b]? = some (.cells #[.int .i64 z0, .int .i64 z1, .int .i64 z2] 2 (0, 0))) :
    Calls Try.prog 97 #[.pointer (some ⟨s, 0, none⟩), .slice (some ⟨b, 0, none⟩) 3 cap] w (Some1 w s) :=
  pick_some w s b cap 3 [z0, z1, z2] h rfl hb (by decide) (by decide) (fun j hj => (cell_of_row w b j _ _ _ hk).trans (match j, hj with
    | 0, _ => rfl
    | 1, _ => rfl
    | 2, _ => rfl)) (by obtain ⟨hlt, _⟩ := Array.getElem?_eq_some_iff.1 hk; exact hlt)
theorem pick5 (w : World) (s b cap : Nat) (z0 z1 z2 z3 z4 : Int) (h : Src w s) (hb : ¬ b = s) (hk : w.heap[b]? = some (.cells #[.int .i64 z0, .int .i64 z1, .int .i64 z2, .int .i64 z3, .int .i64 z4] 2 (0, 0))) :
    Calls Try.prog 97 #[.pointer (some ⟨s, 0, none⟩), .slice (some ⟨b, 0, none⟩) 5 cap] w (Some1 w s) :=
  pick_some w s b cap 5 [z0, z1, z2, z3, z4] h rfl hb (by decide) (by decide) (fun j hj => (cell_of_row w b j _ _ _ hk).trans (match j, hj with
    | 0, _ => rfl
    | 1, _ => rfl
    | 2, _ => rfl
    | 3, _ => rfl
    | 4, _ => rfl)) (by obtain ⟨hlt, _⟩ := Array.getElem?_eq_some_iff.1 hk; exact hlt)
/-- what a draw of a fraction leaves -/
def RatDrawn (w : World) (s : Nat) (e : Ending) (w' : World) : Prop := ∃ x y : Int, e = .returned (.agg #[.int .i64 x, .int .i64 y]) ∧ Src w' s ∧ w.grownBy w' (some s)
def Rat2Drawn (w : World) (s : Nat) (e : Ending) (w' : World) : Prop := ∃ x y u v : Int, e = .returned (.tuple #[.agg #[.int .i64 x, .int .i64 y], .agg #[.int .i64 u, .int .i64 v]]) ∧ Src w' s ∧ w.grownBy w' (some s)
theorem Rzz.al {w : World} {g : Nat} (h : Rzz w g) (o : Obj) : Rzz (w.alloc o) g := kz h ((Below.refl _ _).alloc (Nat.le_refl _) o)
theorem two_set {w w' : World} {s g : Nat} {a b : Value} (h : w.grownBy w' (some s)) (hg : w.heap.size ≤ g) : w.grownBy ((w'.setCell ⟨g, 0, none⟩ a).setCell ⟨g, 1, none⟩ b) (some s) := grown_set_new (grown_set_new h hg _) hg _
theorem src_set {w : World} {s g : Nat} {a b : Value} (h : Src w s) (hg : s < g) : Src ((w.setCell ⟨g, 0, none⟩ a).setCell ⟨g, 1, none⟩ b) s := (h.set_far hg _).set_far hg _

end Go.Proofs.Ytlahgdhofakinaa
namespace Go.Proofs.Ytlahgdhofakinaa
open Go.ChangeShapes Go.WideShapes Go.ChangeAt Go.RowKit Num
set_option linter.unusedVariables false
theorem Code8.of_row {w : World} {a : Option Addr} {len cap : Nat} {zs : List Int} (h : IsRow .u8 w a len cap zs) : (zs.take len).length = len ∧ Code8 w w.heap.size a (zs.take len) := by
  obtain ⟨h1, h2, h3, h4⟩ := Ints.of_row h
  refine ⟨h2, h3, by omega, fun j hj => ?_⟩
  have hm : (zs.take len).getD j 0 ∈ zs.take len := by
    rw [List.getD_eq_getElem?_getD, List.getElem?_eq_getElem hj]; exact List.getElem_mem hj
  exact bounds_u8 (h4 _ hm)

theorem big_any (w : World) (a : Option Addr) (n c : Nat) :
    Calls Try.prog 16 #[.slice a n c] w fun e w' => e = .returned (.bool (decide (4096 < (n : Int)))) ∧ w = w' := by
  go_enter Try.func16, Try.ntmps16
  go_wp2
  go_ret
  exact ⟨rfl, rfl⟩

/-- what a draw of two numbers leaves -/
def TwoDrawn (w : World) (e : Ending) (w' : World) : Prop :=
  ∃ a b : Int, e = .returned (.tuple #[.int .i64 a, .int .i64 b]) ∧ (Lit.int .i64 a).wf = true ∧ (Lit.int .i64 b).wf = true ∧ Below w.heap.size w w'

end Go.Proofs.Ytlahgdhofakinaa
