/- Contracts of small functions of points, the program's and the model's. -/
import Derived.Test.YtlahgdhofakinaaBrM
import Derived.Test.YtlahgdhofakinaaPuA
import Derived.LoopTactic
import Derived.Outline
import Derived.Handy
import Derived.Laws.EntriesVeiled
import Derived.Deep.QuietTactic
import Derived.BigQuiet
namespace Go.Proofs.Ytlahgdhofakinaa
open Go.ChangeShapes Go.WideShapes Go.ChangeAt Go.RowKit Go.Shelf Num
set_option linter.unusedVariables false
set_option linter.unusedSimpArgs false

theorem ints2p {W : World} {g : Nat} {x y : Int} (h : Bk W g #[.int .i64 x, .int .i64 y] 2) : Ints .i64 W W.heap.size (some ⟨g, 0, none⟩) [x, y] := fun _ => ⟨g, 0, rfl, h.lt, fun j hj => by
  rw [Nat.zero_add]
  match j, hj with
  | 0, _ => exact h.cell 0 rfl
  | 1, _ => exact h.cell 1 rfl⟩
theorem anyLack_pt (m x y : Int) : (!anyLack (-m) m [x, y]) = ptB m x y := by
  unfold anyLack ptB inB hasB
  rw [Bool.eq_iff_iff]
  simp
theorem anyLack_pt' (m m' x y : Int) (h : m' = -m) : (!anyLack m' m [x, y]) = ptB m x y := by subst h; exact anyLack_pt m x y

set_option maxRecDepth 100000 in
set_option maxHeartbeats 2000000 in
theorem iwi_any (w : World) (m x y : Int) (m0 : 0 ≤ m) (m1 : m ≤ 1000000) :
    Calls Try.prog 108 #[.agg #[.int .i64 x, .int .i64 y], .int .i64 m] w fun e w' => e = .returned (.bool (ptB m x y)) ∧ Below w.heap.size w w' := by
  have em : IntKind.wrap .i64 (-m) = -m := IntWalk.i64_in _ (by omega)
  go_enter Try.func108, Try.ntmps108
  go_wp2_with fail
  generalize hW : World.alloc _ _ = W
  have bV : Bk W (w.heap.size + 1) #[.int .i64 x, .int .i64 y] 2 := by rw [← hW]; repeat (first | (refine Bk.new' ?_; (simp; done)) | refine Bk.alloc ?_ _)
  have HB : Hid (Below w.heap.size w W) := Lib.hid (by rw [← hW]; exact (by repeat (first | exact Below.refl _ _ | (refine Below.alloc ?_ (by simp <;> omega) _) | (refine Below.setCell ?_ (by simp <;> omega) _) | (refine Below.drew ?_) | (refine bel_drewN ?_ _))))
  clear hW
  refine (are_any W _ _ 2 [x, y] _ m rfl (by omega) (ints2p bV)).mono ?_
  rintro e w1 ⟨rfl, hb⟩
  replace HB := Lib.hid (bel_end HB.out hb)
  clear hb
  go_wp2
  go_ret
  exact ⟨ret_bool (by first | exact anyLack_pt m x y | exact anyLack_pt' m _ x y rfl), HB.out⟩

set_option maxRecDepth 100000 in
set_option maxHeartbeats 2000000 in
theorem isc2_any (w : World) (a b c d : Int) (p1 : -4000000000000000000 ≤ a * c) (p2 : a * c ≤ 4000000000000000000) (q1 : -4000000000000000000 ≤ b * d) (q2 : b * d ≤ 4000000000000000000) :
    Calls Try.prog 110 #[.agg #[.int .i64 a, .int .i64 b], .agg #[.int .i64 c, .int .i64 d]] w fun e w' => e = .returned (.int .i64 (dt2 a b c d)) ∧ Below w.heap.size w w' := by
  have e0 : IntKind.wrap .i64 (a * c) = a * c := IntWalk.i64_in _ (by omega)
  have e1 : IntKind.wrap .i64 (b * d) = b * d := IntWalk.i64_in _ (by omega)
  go_enter Try.func110, Try.ntmps110
  go_wp2
  go_ret
  exact ⟨rfl, (by repeat (first | exact Below.refl _ _ | (refine Below.alloc ?_ (by simp <;> omega) _) | (refine Below.setCell ?_ (by simp <;> omega) _) | (refine Below.drew ?_) | (refine bel_drewN ?_ _)))⟩

set_option maxRecDepth 100000 in
set_option maxHeartbeats 2000000 in
theorem imn_any (w : World) (a b c d : Int) (a1 : -1000000000 ≤ a) (a2 : a ≤ 1000000000) (b1 : -1000000000 ≤ b) (b2 : b ≤ 1000000000) (c1 : -1000000000 ≤ c) (c2 : c ≤ 1000000000) (d1 : -1000000000 ≤ d) (d2 : d ≤ 1000000000) :
    Calls Try.prog 109 #[.agg #[.int .i64 a, .int .i64 b], .agg #[.int .i64 c, .int .i64 d]] w fun e w' => e = .returned (.agg #[.int .i64 (a - c), .int .i64 (b - d)]) ∧ Below w.heap.size w w' := by
  go_enter Try.func109, Try.ntmps109
  go_wp2
  exact bodyPost_ret (v := .agg #[.int .i64 (a - c), .int .i64 (b - d)]) (by simp [results, Try.results109, go_sem]) rfl ⟨rfl, (by repeat (first | exact Below.refl _ _ | (refine Below.alloc ?_ (by simp <;> omega) _) | (refine Below.setCell ?_ (by simp <;> omega) _) | (refine Below.drew ?_) | (refine bel_drewN ?_ _)))⟩

end Go.Proofs.Ytlahgdhofakinaa
