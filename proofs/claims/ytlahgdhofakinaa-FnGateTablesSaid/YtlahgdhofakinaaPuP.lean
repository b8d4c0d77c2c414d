/- Contracts of pulses of bits, the program's and the model's. -/
import Derived.Test.YtlahgdhofakinaaPuL
namespace Go.Proofs.Ytlahgdhofakinaa
open Go.ChangeShapes Go.WideShapes Go.ChangeAt Go.RowKit Go.Shelf Num
set_option linter.unusedVariables false
set_option linter.unusedSimpArgs false
theorem run_make_c (n : Nat) (hn : n ≤ 1000) (w : World) :
    (Instr.makeSlice 38 (.int .i64 0) (.int .i64 (n : Int))).run Try.prog w = .ok (.slice (some ⟨w.heap.size, 0, none⟩) 0 n) (w.alloc (.cells (madeCells #[.int .i64 0] n) 2)) := by
  obtain ⟨i, hi, hz, hs, hb⟩ := info_parts info_i64
  have h := run_make (P := Try.prog) (w := w) 38 2 i _ Try.underlying38 hi hz .i64 .i64 0 (n : Int) (Int.le_refl _) (by omega) (by rw [hb]; omega) (by omega)
  simpa only [Int.toNat_natCast, Int.toNat_zero, hs, Value.cells, Nat.mul_one] using h
/-- bits -/
def bitL (bs : List Int) : Prop := ∀ i, i < bs.length → bs.getD i 0 = 0 ∨ bs.getD i 0 = 1
theorem bitL_of {bs : List Int} (h : anyLack 0 1 bs = false) : bitL bs := fun i hi => by
  have := anyLack_all h hi
  omega

theorem smp_mod {x : Int} (am : Int) (h : x = 0 ∨ x = 1) : smp am x = (2 * x - 1) * am := by
  rcases h with rfl | rfl
  · rw [smp_0]; omega
  · rw [smp_1]; omega

/-- a pulse of bits: its code, its samples -/
def plC (bs : List Int) (w am : Int) : Int := if decide (bs.length ≤ 400) && !anyLack 0 1 bs && hasB 1 400 w && hasB 1 1000 am then (if 400 < (bs.length : Int) * w then 3 else 0) else 2
def plL (bs : List Int) (w am : Int) : List Int := if plC bs w am = 0 then pulK bs w.toNat am bs.length else []
theorem plC_0 {bs : List Int} {w am : Int} (h : plC bs w am = 0) : bs.length ≤ 400 ∧ anyLack 0 1 bs = false ∧ 1 ≤ w ∧ w ≤ 400 ∧ 1 ≤ am ∧ am ≤ 1000 ∧ bs.length * w.toNat ≤ 400 := by
  unfold plC at h
  split at h
  · rename_i g
    simp only [Bool.and_eq_true, decide_eq_true_eq, Bool.not_eq_true'] at g
    obtain ⟨⟨⟨g1, g2⟩, g3⟩, g4⟩ := g
    unfold hasB at g3 g4
    simp only [Bool.and_eq_true, decide_eq_true_eq] at g3 g4
    split at h
    · omega
    · rename_i g5
      refine ⟨g1, g2, g3.1, g3.2, g4.1, g4.2, ?_⟩
      have : (bs.length : Int) * w = ((bs.length * w.toNat : Nat) : Int) := by rw [Int.natCast_mul, Int.toNat_of_nonneg (by omega)]
      omega
  · omega
theorem plL_len (bs : List Int) (w am : Int) : (plL bs w am).length ≤ 400 := by
  unfold plL
  split
  · rename_i h
    rw [pulK_len _ _ (Nat.le_refl _)]
    exact (plC_0 h).2.2.2.2.2.2
  · simp
theorem one_lack (lo hi x : Int) : anyLack lo hi [x] = !hasB lo hi x := by simp [anyLack]
/-- a number that lies alone in a block -/
theorem ints_one (W : World) (x : Int) : Ints .i64 (W.alloc (.cells #[.int .i64 x] 2)) (W.alloc (.cells #[.int .i64 x] 2)).heap.size (some ⟨W.heap.size, 0, none⟩) [x] := fun _ =>
  ⟨W.heap.size, 0, rfl, by simp, fun j hj => by
    have : j = 0 := by simpa using hj
    subst this
    exact (Bk.new W #[.int .i64 x] 2).cell 0 rfl⟩
theorem are1_any (w : World) (x lo hi : Int) :
    Calls Try.prog 72 #[.agg #[.int .i64 lo, .int .i64 hi], .slice (some ⟨w.heap.size, 0, none⟩) 1 1] (w.alloc (.cells #[.int .i64 x] 2)) fun e w' => e = .returned (.bool (hasB lo hi x)) ∧ Below w.heap.size w w' := by
  refine (are_any (w.alloc (.cells #[.int .i64 x] 2)) _ 1 1 [x] lo hi rfl (by omega) (ints_one w x)).mono ?_
  rintro e w1 ⟨rfl, hb⟩
  exact ⟨by rw [one_lack, Bool.not_not], bel_end (by repeat (first | exact Below.refl _ _ | (refine Below.alloc ?_ (by simp <;> omega) _) | (refine Below.setCell ?_ (by simp <;> omega) _) | (refine Below.drew ?_) | (refine bel_drewN ?_ _))) hb⟩
end Go.Proofs.Ytlahgdhofakinaa
