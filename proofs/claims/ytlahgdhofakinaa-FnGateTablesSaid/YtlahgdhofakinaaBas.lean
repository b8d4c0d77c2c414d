/- Contracts of values, ranges and absolute values, the program's and the model's. Contracts of the program's and of the model's integer helpers: values, codes of a division, quotients rounded down and up. Contracts of QuotientBounds and NearestQuotient, the program's and the model's: both hand back the same numbers at every pair of integers. Contracts of the greatest common divisor, the program's and the model's. Contracts of the small functions on intervals, the program's and the model's: valid intervals, numbers in them, results within the values; the laws' own copies of an interval and their comparison. Contracts of the common part of two intervals, of results within the values, and of a number in an interval, the program's and the model's. Contracts of ScaledInterval, the program's and the model's. The walks of the exact laws of functions of two intervals: each returns true and writes nothing that was there. Slices of 64-bit integers as lists: what a slice that came in, or that the call has made, reads as; nil and empty ones let in. Contracts of the laws' own helpers on slices of integers: a copy of a slice lies in new memory; two slices are compared element by element; a code is big from 4097 letters on. -/
import Derived.Test.YtlahgdhofakinaaRows
import Derived.WalkKit
import Derived.ProofKit
import Derived.OpenShut
import Derived.Below
import Derived.Deep.Draws
import Derived.Lib.Hide
import Derived.Test.YtlahgdhofakinaaMth
import Derived.Outline
import Derived.Deep.QuietTactic
import Derived.BigQuiet
import Derived.LoopTactic
import Derived.WalkMore
import Derived.Deep.LoopGhost
import Derived.WalkSmall
import Derived.WalkSpells
import Derived.WalkLawsBesides
import Derived.Deep.RegionHeld3
import Derived.Deep.DeepCutAuto
import Derived.Deep.DrawnRows
import Derived.Deep.OwnRows
namespace Go.Proofs.Ytlahgdhofakinaa
open Go.ChangeShapes Go.WideShapes Go.ChangeAt Go.RowKit
set_option linter.unusedVariables false
theorem bel_drewN {B : Nat} {a w : World} (h : Below B a w) (n : Nat) : Below B a (w.drewN n) := ⟨h.os, h.tape, h.output, h.size, h.block⟩
/-- one step more behind a call that leaves all old blocks alone -/
theorem bel_step {B : Nat} {w w1 w2 : World} (h : Below B w w1) (g : Below w1.heap.size w1 w2) (hB : B ≤ w.heap.size) : Below B w w2 := h.trans (g.mono (Nat.le_trans hB h.size))
theorem bel_end {w W w' : World} (g : Below w.heap.size w W) (h : Below W.heap.size W w') : Below w.heap.size w w' := g.trans (h.mono g.size)
/-- cells and marks of old blocks, as rules -/
theorem bel_rules {B : Nat} {W w1 : World} (hb : Below B W w1) : (∀ b o, b < B → w1.cell? ⟨b, o, none⟩ = W.cell? ⟨b, o, none⟩) ∧ (∀ b o, b < B → w1.frozen? ⟨b, o, none⟩ = W.frozen? ⟨b, o, none⟩) ∧ (∀ b, b < W.heap.size → b < w1.heap.size) :=
  ⟨fun b o h => hb.cell (p := ⟨b, o, none⟩) h, fun b o h => hb.frozen (p := ⟨b, o, none⟩) h, fun b h => Nat.lt_of_lt_of_le h hb.size⟩
theorem bel_in {B : Nat} {W w1 w2 : World} (g : Below w1.heap.size w1 w2) (h : Below B W w1) (hB : B ≤ W.heap.size) : Below B W w2 := h.trans (g.mono (Nat.le_trans hB h.size))
theorem bel_al {B : Nat} {W w1 : World} {o : Obj} (h : Below B W w1) (hB : B ≤ W.heap.size) : Below B W (w1.alloc o) := h.alloc (Nat.le_trans hB h.size) o
/-- a value: an integer from -10^12 to 10^12 -/
def valB (x : Int) : Bool := decide (-1000000000000 ≤ x ∧ x ≤ 1000000000000)
theorem valB_t {x : Int} (h : valB x = true) : -1000000000000 ≤ x ∧ x ≤ 1000000000000 := by unfold valB at h; exact of_decide_eq_true h
theorem valB_f {x : Int} (h : valB x = false) : x < -1000000000000 ∨ 1000000000000 < x := by
  unfold valB at h; have := of_decide_eq_false h; omega
theorem valB_mk {x : Int} (h : -1000000000000 ≤ x) (g : x ≤ 1000000000000) : valB x = true := by unfold valB; exact decide_eq_true ⟨h, g⟩
theorem valB_lo {x : Int} (h : x < -1000000000000) : valB x = false := by unfold valB; exact decide_eq_false (by omega)
theorem valB_hi {x : Int} (h : 1000000000000 < x) : valB x = false := by unfold valB; exact decide_eq_false (by omega)

theorem ret_int {k : IntKind} {a b : Int} (h : a = b) : Ending.returned (.int k a) = .returned (.int k b) := by rw [h]
theorem ret_bool {a b : Bool} (h : a = b) : Ending.returned (.bool a) = .returned (.bool b) := by rw [h]
/-- a number of a range -/
def inB (n lo hi : Int) : Bool := decide (lo ≤ n ∧ n ≤ hi)
theorem inB_t {n lo hi : Int} (h : inB n lo hi = true) : lo ≤ n ∧ n ≤ hi := by unfold inB at h; exact of_decide_eq_true h
theorem inB_mk {n lo hi : Int} (h : lo ≤ n) (g : n ≤ hi) : inB n lo hi = true := by unfold inB; exact decide_eq_true ⟨h, g⟩
theorem inB_f {n lo hi : Int} (h : inB n lo hi = false) : n < lo ∨ hi < n := by
  unfold inB at h; have := of_decide_eq_false h; omega
theorem inB_lo {n lo hi : Int} (h : n < lo) : inB n lo hi = false := by unfold inB; exact decide_eq_false (by omega)
theorem inB_hi {n lo hi : Int} (h : hi < n) : inB n lo hi = false := by unfold inB; exact decide_eq_false (by omega)
theorem lin_any (n lo hi : Int) (w : World) :
    Calls Try.prog 106 #[.int .i64 n, .int .i64 lo, .int .i64 hi] w fun e w' => e = .returned (.bool (inB n lo hi)) ∧ w = w' := by
  by_cases h1 : n < lo
  · go_enter Try.func106, Try.ntmps106
    go_wp2
    go_ret
    exact ⟨ret_bool (by rw [inB_lo h1]), rfl⟩
  · by_cases h2 : hi < n
    · go_enter Try.func106, Try.ntmps106
      go_wp2
      go_ret
      exact ⟨ret_bool (by rw [inB_hi h2]; exact decide_eq_false (by omega)), rfl⟩
    · go_enter Try.func106, Try.ntmps106
      go_wp2
      go_ret
      exact ⟨ret_bool (by rw [inB_mk (by omega) (by omega)]), rfl⟩

end Go.Proofs.Ytlahgdhofakinaa
namespace Go.Proofs.Ytlahgdhofakinaa
open Go.ChangeShapes Go.WideShapes Go.ChangeAt Go.RowKit Num
set_option linter.unusedVariables false

/-- the code of a division: 2 beside a number that is no value, 5 by 0, else 0 -/
def dcode (a b : Int) : Int := if valB a && valB b then (if b == 0 then 5 else 0) else 2
theorem dcode_0 {a b : Int} (h : dcode a b = 0) : valB a = true ∧ valB b = true ∧ b ≠ 0 := by
  unfold dcode at h; split at h
  · rename_i g; simp at g; split at h <;> simp_all
  · simp at h

/-- the quotient rounded up -/
def cdiv (a b : Int) : Int := -((-a).fdiv b)
end Go.Proofs.Ytlahgdhofakinaa
namespace Go.Proofs.Ytlahgdhofakinaa
open Go.ChangeShapes Go.WideShapes Go.ChangeAt Go.RowKit Num
set_option linter.unusedVariables false
theorem ret_int3 {a b c a' b' c' : Int} (h : a = a') (h2 : b = b') (h3 : c = c') : Ending.returned (.tuple #[.int .i64 a, .int .i64 b, .int .i64 c]) = .returned (.tuple #[.int .i64 a', .int .i64 b', .int .i64 c']) := by rw [h, h2, h3]
theorem ret_int2 {a b a' b' : Int} (h : a = a') (h2 : b = b') : Ending.returned (.tuple #[.int .i64 a, .int .i64 b]) = .returned (.tuple #[.int .i64 a', .int .i64 b']) := by rw [h, h2]
def qlo (a b : Int) : Int := if dcode a b = 0 then a.fdiv b else 0
def qhi (a b : Int) : Int := if dcode a b = 0 then cdiv a b else 0

end Go.Proofs.Ytlahgdhofakinaa
namespace Go.Proofs.Ytlahgdhofakinaa
open Go.ChangeShapes Go.WideShapes Go.ChangeAt Go.RowKit Num
set_option linter.unusedVariables false

end Go.Proofs.Ytlahgdhofakinaa
namespace Go.Proofs.Ytlahgdhofakinaa
open Go.ChangeShapes Go.WideShapes Go.ChangeAt Go.RowKit Num
set_option linter.unusedVariables false

theorem mul_abs {a n : Int} {A N : Nat} (ha : a.natAbs ≤ A) (hn : n.natAbs ≤ N) : (a * n).natAbs ≤ A * N := by rw [Int.natAbs_mul]; exact Nat.mul_le_mul ha hn
/-- the interval from a to b is valid -/
def vldB (a b : Int) : Bool := valB a && valB b && decide (a ≤ b)
/-- x lies in the interval from a to b -/
def hasB (a b x : Int) : Bool := decide (a ≤ x) && decide (x ≤ b)

theorem has_any (a b x : Int) (w : World) :
    Calls Try.prog 123 #[.agg #[.int .i64 a, .int .i64 b], .int .i64 x] w fun e w' => e = .returned (.bool (hasB a b x)) ∧ w' = w.alloc (.cells #[.int .i64 a, .int .i64 b] 81) := by
  cases ha : decide (a ≤ x) <;> cases hb : decide (x ≤ b)
  all_goals
    go_enter Try.func123, Try.ntmps123
    go_wp2
    go_ret
    exact ⟨ret_bool (by unfold hasB; rw [ha, hb]; rfl), rfl⟩

theorem lacks_any (a b x : Int) (w : World) :
    Calls Try.prog 112 #[.agg #[.int .i64 a, .int .i64 b], .int .i64 x] w fun e w' => e = .returned (.bool (!hasB a b x)) ∧ w' = (w.alloc (.cells #[.int .i64 a, .int .i64 b] 81)).alloc (.cells #[.int .i64 a, .int .i64 b] 81) := by
  go_enter Try.func112, Try.ntmps112
  go_wp2_with (go_at_call 123; refine (has_any _ _ _ _).mono ?_; rintro e w' ⟨rfl, rfl⟩)
  go_ret
  exact ⟨rfl, rfl⟩

end Go.Proofs.Ytlahgdhofakinaa
namespace Go.Proofs.Ytlahgdhofakinaa
open Go.ChangeShapes Go.WideShapes Go.ChangeAt Go.RowKit Num
set_option linter.unusedVariables false

/-- an interval and a code, as a result -/
def resT (T : Int × Int × Int) : Value := .tuple #[.agg #[.int .i64 T.1, .int .i64 T.2.1], .int .i64 T.2.2]
theorem resT_of {T : Int × Int × Int} {l h c : Int} (e : T = (l, h, c)) : Ending.returned (.tuple #[.agg #[.int .i64 l, .int .i64 h], .int .i64 c]) = .returned (.tuple #[.agg #[.int .i64 T.1, .int .i64 T.2.1], .int .i64 T.2.2]) := by rw [e]

/-- the interval from l to h, if both bounds are values -/
def within (l h : Int) : Int × Int × Int := if valB l && valB h then (l, h, 0) else (0, 0, 2)
/-- the common part -/
def meetT (a b c d : Int) : Int × Int × Int := if vldB a b && vldB c d then (if max a c ≤ min b d then (max a c, min b d, 0) else (0, 0, 4)) else (0, 0, 1)

/-- the number x lies in the valid interval from a to b -/
def hnB (a b x : Int) : Bool := vldB a b && hasB a b x
theorem inB_has (a b x : Int) : inB x a b = hasB a b x := by
  unfold inB hasB
  by_cases h : a ≤ x <;> by_cases g : x ≤ b <;> simp [h, g]
end Go.Proofs.Ytlahgdhofakinaa
namespace Go.Proofs.Ytlahgdhofakinaa
open Go.ChangeShapes Go.WideShapes Go.ChangeAt Go.RowKit Num
set_option linter.unusedVariables false
/-- the scaled interval -/
def scT (a b n d : Int) : Int × Int × Int := if vldB a b then (if hasB (-1000000) 1000000 n && hasB 1 1000000 d then within ((min (a * n) (b * n)).fdiv d) (cdiv (max (a * n) (b * n)) d) else (0, 0, 2)) else (0, 0, 1)
theorem vldB_t {a b : Int} (h : vldB a b = true) : -1000000000000 ≤ a ∧ a ≤ 1000000000000 ∧ -1000000000000 ≤ b ∧ b ≤ 1000000000000 ∧ a ≤ b := by
  unfold vldB at h
  simp only [Bool.and_eq_true, decide_eq_true_eq] at h
  obtain ⟨⟨h1, h2⟩, h3⟩ := h
  have := valB_t h1
  have := valB_t h2
  omega
theorem hasB_t {a b x : Int} (h : hasB a b x = true) : a ≤ x ∧ x ≤ b := by
  unfold hasB at h
  simpa only [Bool.and_eq_true, decide_eq_true_eq] using h
theorem resT_eq {T U : Int × Int × Int} (e : T = U) : Ending.returned (.tuple #[.agg #[.int .i64 U.1, .int .i64 U.2.1], .int .i64 U.2.2]) = .returned (.tuple #[.agg #[.int .i64 T.1, .int .i64 T.2.1], .int .i64 T.2.2]) := by rw [e]
theorem lih_any (x a b : Int) (w : World) :
    Calls Try.prog 106 #[.int .i64 x, .int .i64 a, .int .i64 b] w fun e w' => e = .returned (.bool (hasB a b x)) ∧ w = w' :=
  (lin_any x a b w).mono fun e w' h => ⟨by rw [h.1, inB_has], h.2⟩

end Go.Proofs.Ytlahgdhofakinaa
namespace Go.Proofs.Ytlahgdhofakinaa
open Go.ChangeShapes Go.WideShapes Go.ChangeAt Go.RowKit
set_option linter.unusedVariables false
attribute [local go_sem ↓] Go.wp_at_zero Go.wp_at_succ

/-- two boxed arguments, read in a later world -/
theorem keep4 {W w2 : World} {m n : Nat} {v0 v1 v2 v3 : Value} (c0 : W.cell? ⟨m, 0, none⟩ = some v0) (c1 : W.cell? ⟨m, 1, none⟩ = some v1) (c2 : W.cell? ⟨n, 0, none⟩ = some v2) (c3 : W.cell? ⟨n, 1, none⟩ = some v3)
    (h : Below W.heap.size W w2) :
    w2.cell? ⟨m, 0, none⟩ = some v0 ∧ w2.cell? ⟨m, 1, none⟩ = some v1 ∧ w2.cell? ⟨n, 0, none⟩ = some v2 ∧ w2.cell? ⟨n, 1, none⟩ = some v3 ∧ Below W.heap.size W w2 :=
  ⟨(h.cell (p := ⟨m, 0, none⟩) (World.block_lt_of_cell? W _ c0)).trans c0, (h.cell (p := ⟨m, 1, none⟩) (World.block_lt_of_cell? W _ c1)).trans c1,
   (h.cell (p := ⟨n, 0, none⟩) (World.block_lt_of_cell? W _ c2)).trans c2, (h.cell (p := ⟨n, 1, none⟩) (World.block_lt_of_cell? W _ c3)).trans c3, h⟩
theorem keep1 {W w2 : World} {m o : Nat} {v0 : Value} (c0 : W.cell? ⟨m, o, none⟩ = some v0) (h : Below W.heap.size W w2) : w2.cell? ⟨m, o, none⟩ = some v0 := (h.cell (p := ⟨m, o, none⟩) (World.block_lt_of_cell? W _ c0)).trans c0

theorem set2_cells {w : World} {p : Nat} {a b x y : Value} (h0 : w.cell? ⟨p, 0, none⟩ = some x) (h1 : w.cell? ⟨p, 1, none⟩ = some y) :
    ((w.setCell ⟨p, 0, none⟩ a).setCell ⟨p, 1, none⟩ b).cell? ⟨p, 0, none⟩ = some a ∧ ((w.setCell ⟨p, 0, none⟩ a).setCell ⟨p, 1, none⟩ b).cell? ⟨p, 1, none⟩ = some b := by
  constructor <;> simp [h0, h1, go_sem]
theorem lt_trans_rule {x y z : Nat} (h : ∀ b, b < x → b < y) (g : ∀ b, b < y → b < z) : ∀ b, b < x → b < z := fun b hb => g b (h b hb)
/-- a result of a struct and a code lies in a block of the call's own -/
def Res2 (W wx : World) (s5 s6 : Value) (a b c : Int) : Prop :=
  ∃ g : Nat, s5 = .pointer (some ⟨g, 0, none⟩) ∧ s6 = .int .i64 c ∧ wx.cell? ⟨g, 0, none⟩ = some (.int .i64 a) ∧ wx.cell? ⟨g, 1, none⟩ = some (.int .i64 b) ∧ W.heap.size ≤ g ∧ Below W.heap.size W wx

end Go.Proofs.Ytlahgdhofakinaa
namespace Go.Proofs.Ytlahgdhofakinaa
open Go.ChangeShapes Go.WideShapes Go.ChangeAt Go.RowKit
set_option linter.unusedVariables false
/-- what a walk is told of a slice of integers that came in -/
def IsRow (k : IntKind) (w : World) (a : Option Addr) (len cap : Nat) (zs : List Int) : Prop :=
  (a = none ∧ len = 0 ∧ cap = 0 ∧ zs = []) ∨
  ∃ x, a = some x ∧ len ≤ cap ∧ cap ≤ maxLen ∧ zs.length = cap ∧ (∀ i, i < zs.length → w.cell? (x.add i) = some (.int k (zs.getD i 0))) ∧ ∀ n ∈ zs, (Lit.int k n).wf = true

/-- the slice at 'a' reads as the numbers 'zs'; its memory lies below block B -/
def Ints (k : IntKind) (w : World) (B : Nat) (a : Option Addr) (zs : List Int) : Prop :=
  0 < zs.length → ∃ b off, a = some ⟨b, off, none⟩ ∧ b < B ∧ ∀ j, j < zs.length → w.cell? ⟨b, off + j, none⟩ = some (.int k (zs.getD j 0))

theorem cell_lt {w : World} {b off : Nat} {v : Value} (h : w.cell? ⟨b, off, none⟩ = some v) : b < w.heap.size := by
  rcases Nat.lt_or_ge b w.heap.size with hl | hg
  · exact hl
  · simp [World.cell?, hg] at h

theorem Ints.of_row {k : IntKind} {w : World} {a : Option Addr} {len cap : Nat} {zs : List Int} (h : IsRow k w a len cap zs) :
    len ≤ 9223372036854775807 ∧ (zs.take len).length = len ∧ Ints k w w.heap.size a (zs.take len) ∧ ∀ n ∈ zs.take len, (Lit.int k n).wf = true := by
  rcases h with ⟨rfl, rfl, rfl, rfl⟩ | ⟨x, rfl, hl, hm, hz, hc, hw⟩
  · exact ⟨by omega, rfl, fun h => by simp at h, fun n hn => by simp at hn⟩
  · have e : (zs.take len).length = len := by simp; omega
    unfold maxLen at hm
    refine ⟨by omega, e, fun h => ?_, fun n hn => hw n (List.mem_of_mem_take hn)⟩
    obtain ⟨b, off, rfl, hcell⟩ := ints_at hc (by omega)
    refine ⟨b, off, rfl, cell_lt (hcell 0 (by omega)), fun j hj => ?_⟩
    rw [hcell j (by omega)]
    congr 2
    rw [List.getD_eq_getElem?_getD, List.getD_eq_getElem?_getD, List.getElem?_take, if_pos (by omega)]

theorem Ints.below {k : IntKind} {w w' : World} {B : Nat} {a : Option Addr} {zs : List Int} (h : Ints k w B a zs) (hb : Below B w w') : Ints k w' B a zs := fun hp => by
  obtain ⟨b, off, e, hB, hc⟩ := h hp
  exact ⟨b, off, e, hB, fun j hj => (hb.cell (p := ⟨b, off + j, none⟩) hB).trans (hc j hj)⟩
theorem Ints.more {k : IntKind} {w : World} {B B' : Nat} {a : Option Addr} {zs : List Int} (h : Ints k w B a zs) (hb : B ≤ B') : Ints k w B' a zs := fun hp => by
  obtain ⟨b, off, e, hB, hc⟩ := h hp
  exact ⟨b, off, e, by omega, hc⟩
theorem Ints.drewN {k : IntKind} {w : World} {B : Nat} {a : Option Addr} {zs : List Int} (h : Ints k w B a zs) (n : Nat) : Ints k (w.drewN n) B a zs := h
/-- the cell of an element -/
theorem Ints.at_ {k : IntKind} {w : World} {B : Nat} {a : Option Addr} {zs : List Int} (h : Ints k w B a zs) {j : Nat} (hj : j < zs.length) :
    ∃ b off, a = some ⟨b, off, none⟩ ∧ b < B ∧ w.cell? ⟨b, off + j, none⟩ = some (.int k (zs.getD j 0)) := by
  obtain ⟨b, off, e, hB, hc⟩ := h (by omega)
  exact ⟨b, off, e, hB, hc j hj⟩
end Go.Proofs.Ytlahgdhofakinaa
namespace Go.Proofs.Ytlahgdhofakinaa
open Go.ChangeShapes Go.WideShapes Go.ChangeAt Go.RowKit Num
set_option linter.unusedVariables false
theorem info_i64 : (Try.prog.info? 2).map (fun i => (i.zero, i.size, i.bytes)) = some (some (.int .i64 0), 1, 8) := by kernel_rfl

/-- the numbers as the cells of a row -/
def cellsOf (zs : List Int) (i : Nat) : Value := .int .i64 (zs.getD i 0)
/-- a new slice that holds the numbers zs in a block of its own -/
def NewInts (w : World) (zs : List Int) (e : Ending) (w' : World) : Prop :=
  ∃ g, e = .returned (.slice (some ⟨g, 0, none⟩) zs.length zs.length) ∧ w.heap.size ≤ g ∧ w'.rowIs g 2 zs.length (cellsOf zs) ∧ Below w.heap.size w w'
theorem Ints.of_rowIs {w : World} {g : Nat} {t : TypeId} {zs : List Int} (h : w.rowIs g t zs.length (cellsOf zs)) : Ints .i64 w w.heap.size (some ⟨g, 0, none⟩) zs :=
  fun _ => ⟨g, 0, rfl, h.lt, fun j hj => by rw [Nat.zero_add]; exact h.cell hj⟩

def upto (zs : List Int) (k : Nat) (i : Nat) : Value := if i < k then .int .i64 (zs.getD i 0) else .int .i64 0

theorem to_any (w : World) (a : Option Addr) (cap : Nat) (zs : List Int) (hl : zs.length ≤ 1048576) (hz : Ints .i64 w w.heap.size a zs) :
    Calls Try.prog 53 #[.slice a zs.length cap] w (NewInts w zs) := by
  have hmk := fun w => run_make_row' (P := Try.prog) 38 2 (.int .i64 0) 8 Try.underlying38 info_i64 rfl .i64 .i64 zs.length (by omega) (by omega) w
  go_enter Try.func53, Try.ntmps53
  go_wp2
  clear hmk
  go_loopw [4] (fun i wr => ∃ k : Nat, k ≤ zs.length ∧ i = .int .i64 k ∧ Below w.heap.size w wr ∧ wr.rowIs w.heap.size 2 zs.length (upto zs k)) (fun i _ => zs.length - (intOf i).toNat)
  case atStart => exact ⟨0, by omega, rfl, (Below.refl _ _).alloc (Nat.le_refl _) _, (World.rowIs_made _ _ _ _).congr (fun i hi => by unfold upto; rw [if_neg (by omega)])⟩
  case round =>
    obtain ⟨k, hk, rfl, hb, hrow⟩ := hrel
    by_cases hlt : k < zs.length
    · obtain ⟨b, off, rfl, hB, hc⟩ := hz.at_ hlt
      have hc1 := (hb.cell (p := ⟨b, off + k, none⟩) hB).trans hc
      have ho := hrow.cell hlt
      have hf := hrow.frozen k
      have hu : upto zs k k = .int .i64 0 := by unfold upto; rw [if_neg (by omega)]
      rw [hu] at ho
      have HB := Lib.hid hb
      have HZ := Lib.hid hz
      have HR := Lib.hid hrow
      clear hb hz hrow hc hu
      obtain ⟨x, hx⟩ : ∃ x, zs.getD k 0 = x := ⟨_, rfl⟩
      rw [hx] at hc1
      have HX := Lib.hid hx
      clear hx
      go_wp2
      go_roundw
      case rel => exact ⟨k + 1, by omega, by go_num, HB.out.setCell (by simp) _, (HR.out.set k (.int .i64 x)).congr (fun i hi => by
        unfold upto
        by_cases e : i = k
        · subst e; rw [if_pos rfl, if_pos (by omega), HX.out]
        · rw [if_neg e]; by_cases h : i < k
          · rw [if_pos h, if_pos (by omega)]
          · rw [if_neg h, if_neg (by omega)])⟩
      case measure => simp [intOf]; omega
    · go_wp2
      go_ret
      exact ⟨_, rfl, Nat.le_refl _, hrow.congr (fun i hi => by unfold upto cellsOf; rw [if_pos (by omega)]), hb⟩

theorem eq_ext {xs ys : List Int} (hl : xs.length = ys.length) (h : ∀ i, i < xs.length → xs.getD i 0 = ys.getD i 0) : xs = ys := by
  apply List.ext_getElem hl
  intro i h1 h2
  have := h i h1
  rwa [List.getD_eq_getElem?_getD, List.getD_eq_getElem?_getD, List.getElem?_eq_getElem h1, List.getElem?_eq_getElem h2] at this
/-- two lists of numbers are the same -/
def sameB (xs ys : List Int) : Bool := decide (xs = ys)
theorem sameB_t {xs ys : List Int} (h : xs = ys) : sameB xs ys = true := by unfold sameB; exact decide_eq_true h
theorem sameB_f {xs ys : List Int} (h : xs ≠ ys) : sameB xs ys = false := by unfold sameB; exact decide_eq_false h

set_option maxHeartbeats 400000 in
theorem eqi_any (w : World) (B : Nat) (a b : Option Addr) (c d : Nat) (xs ys : List Int) (hl : xs.length ≤ 9223372036854775807) (hl2 : ys.length ≤ 9223372036854775807) (hx : Ints .i64 w B a xs) (hy : Ints .i64 w B b ys) :
    Calls Try.prog 54 #[.slice a xs.length c, .slice b ys.length d] w fun e w' => e = .returned (.bool (sameB xs ys)) ∧ ∃ n, w' = w.drewN n := by
  by_cases hlen : xs.length = ys.length
  case neg =>
    have hne : ((xs.length : Int) != (ys.length : Int)) = true := by simp; omega
    have H := Lib.hid hlen
    clear hlen
    go_enter Try.func54, Try.ntmps54
    go_wp2
    go_ret
    exact ⟨ret_bool (sameB_f (fun h => H.out (by rw [h]))).symm, 0, rfl⟩
  case pos =>
    obtain ⟨n, hn⟩ : ∃ n, xs.length = n := ⟨_, rfl⟩
    have hn2 : ys.length = n := by omega
    rw [hn, hn2]
    rw [hn] at hl
    have N1 := Lib.hid hn
    have N2 := Lib.hid hn2
    clear hn hn2 hlen hl2
    go_enter Try.func54, Try.ntmps54
    go_wp2
    go_loopw [5] (fun i wr => ∃ k : Nat, (∃ m, wr = w.drewN m) ∧ k ≤ n ∧ i = .int .i64 k ∧ ∀ j, j < k → xs.getD j 0 = ys.getD j 0) (fun i _ => n - (intOf i).toNat)
    case atStart => exact ⟨0, ⟨0, rfl⟩, by omega, rfl, fun j hj => by omega⟩
    case round =>
      obtain ⟨k, ⟨m, rfl⟩, hk, rfl, hr⟩ := hrel
      have HR := Lib.hid hr
      clear hr
      by_cases hlt : k < n
      · obtain ⟨b1, off1, rfl, _, hc1⟩ := hx.at_ (j := k) (by rw [N1.out]; omega)
        obtain ⟨b2, off2, rfl, _, hc2⟩ := hy.at_ (j := k) (by rw [N2.out]; omega)
        clear hx hy
        obtain ⟨x, hx⟩ : ∃ x, xs.getD k 0 = x := ⟨_, rfl⟩
        obtain ⟨y, hy⟩ : ∃ y, ys.getD k 0 = y := ⟨_, rfl⟩
        rw [hx] at hc1
        rw [hy] at hc2
        have HX := Lib.hid hx
        have HY := Lib.hid hy
        clear hx hy
        by_cases he : x = y
        · subst he
          go_wp2
          go_quiet (fail)
          go_wp2
          go_roundw
          case rel =>
            refine ⟨k + 1, ⟨_, rfl⟩, by omega, by go_num, fun j hj => ?_⟩
            by_cases hjk : j < k
            · exact HR.out j hjk
            · obtain rfl : j = k := by omega
              rw [HX.out, HY.out]
          case measure => simp [intOf]; omega
        · have hb : (x != y) = true := by simpa using he
          go_wp2
          go_quiet (fail)
          go_wp2
          go_ret
          exact ⟨ret_bool (sameB_f (fun h => he (by rw [← HX.out, ← HY.out, h]))).symm, _, World.drewN_drewN _ _ _⟩
      · go_wp2
        go_ret
        exact ⟨ret_bool (sameB_t (eq_ext (by rw [N1.out, N2.out]) (fun i hi => HR.out i (by rw [N1.out] at hi; omega)))).symm, _, rfl⟩
end Go.Proofs.Ytlahgdhofakinaa
