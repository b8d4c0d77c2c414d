/- Contracts of the laws' helpers on states of a ray. -/
import Derived.Test.YthbcllejojnboaaLRay
import Derived.Test.YthbcllejojnboaaPrs
import Derived.Test.YthbcllejojnboaaBas
import Derived.Deep.RegionHeld3
import Derived.Deep.DeepCutAuto
import Derived.Deep.DrawnRows
import Derived.Deep.RegionWith
import Derived.Outline
import Derived.Handy
namespace Go.Proofs.Ythbcllejojnboaa
open Go.ChangeShapes Go.WideShapes Go.ChangeAt Go.RowKit Go.Shelf Num
set_option linter.unusedVariables false
set_option linter.unusedSimpArgs false

set_option maxRecDepth 100000 in
set_option maxHeartbeats 2000000 in
theorem tors_any (w : World) (K lo hi : Int) (dn : Bool) :
    Calls Try.prog 49 #[.agg #[.int .i64 K, .bool dn, .int .i64 lo, .int .i64 hi]] w fun e w' => e = .returned (.agg #[.int .i64 K, .bool dn, .int .i64 lo, .int .i64 hi]) ∧ Below w.heap.size w w' := by
  have K1 : Hid (∀ W : World, Calls Try.prog 61 #[.agg #[.int .i64 lo, .int .i64 hi]] W fun e w' => e = .returned (.agg #[.int .i64 lo, .int .i64 hi]) ∧ Below W.heap.size W w') := Lib.hid (fun W => toi_any lo hi W)
  go_enter Try.func49, Try.ntmps49
  go_upto_region 2 with fail
  generalize hW : World.alloc _ _ = W
  have bQ : Bk W (w.heap.size) #[.int .i64 K, .bool dn, .int .i64 lo, .int .i64 hi] 69 := by rw [← hW]; repeat (first | (refine Bk.new' ?_; (simp; done)) | refine Bk.alloc ?_ _)
  have bR : Bk W (w.heap.size + 1) #[.int .i64 0, .bool false, .int .i64 0, .int .i64 0] 49 := by rw [← hW]; repeat (first | (refine Bk.new' ?_; (simp; done)) | refine Bk.alloc ?_ _)
  have bT : Bk W (w.heap.size + 1 + 1) #[.int .i64 0, .bool false, .int .i64 0, .int .i64 0] 49 := by rw [← hW]; repeat (first | (refine Bk.new' ?_; (simp; done)) | refine Bk.alloc ?_ _)
  have HB : Hid (Below w.heap.size w W) := Lib.hid (by rw [← hW]; exact (by repeat (first | exact Below.refl _ _ | (refine Below.alloc ?_ (by simp <;> omega) _) | (refine Below.setCell ?_ (by simp <;> omega) _) | (refine Below.drew ?_) | (refine bel_drewN ?_ _))))
  clear hW
  have bQ_0 := bQ.cell 0 rfl
  have bQ_1 := bQ.cell 1 rfl
  have bQ_2 := bQ.cell 2 rfl
  have bQ_3 := bQ.cell 3 rfl
  have bQ_l := bQ.lt
  have bT_0 := bT.cell 0 rfl
  have bT_1 := bT.cell 1 rfl
  have bT_2 := bT.cell 2 rfl
  have bT_3 := bT.cell 3 rfl
  have bT_f0 := bT.frozen 0
  have bT_f1 := bT.frozen 1
  have bT_f2 := bT.frozen 2
  have bT_f3 := bT.frozen 3
  have bT_l := bT.lt
  go_wp2_with fail
  generalize hW : World.setCell _ _ _ = W2
  have hb : Below w.heap.size w W2 := by rw [← hW]; exact ((HB.out.setCell (p := ⟨w.heap.size + 1 + 1, 0, none⟩) (by dsimp only; omega) _).setCell (p := ⟨w.heap.size + 1 + 1, 1, none⟩) (by dsimp only; omega) _)
  replace bR : Bk W2 (w.heap.size + 1) #[.int .i64 0, .bool false, .int .i64 0, .int .i64 0] 49 := by rw [← hW]; exact (bR.other (by omega) 0 _).other (by omega) 1 _
  clear bT_0 bT_1 bT_2 bT_3 bT_f0 bT_f1 bT_f2 bT_f3 bT_l
  clear bQ_0 bQ_1 bQ_2 bQ_3 bQ_l
  replace bT : Bk W2 (w.heap.size + 1 + 1) #[.int .i64 K, .bool dn, .int .i64 0, .int .i64 0] 49 := by rw [← hW]; exact (bT.set 0 _ rfl).set 1 _ rfl
  clear hW bQ
  replace HB := Lib.hid hb
  clear hb
  (with_reducible refine Calls.mono (K1.out _) ?_)
  rintro e w1 ⟨rfl, hb⟩
  replace bR := bR.on hb
  replace bT := bT.on hb
  replace HB := Lib.hid (bel_end HB.out hb)
  clear hb
  have bT_0 := bT.cell 0 rfl
  have bT_1 := bT.cell 1 rfl
  have bT_2 := bT.cell 2 rfl
  have bT_3 := bT.cell 3 rfl
  have bT_f0 := bT.frozen 0
  have bT_f1 := bT.frozen 1
  have bT_f2 := bT.frozen 2
  have bT_f3 := bT.frozen 3
  have bT_l := bT.lt
  go_upto_region 5 with fail
  generalize hW : World.setCell _ _ _ = W3
  have hb : Below w.heap.size w W3 := by rw [← hW]; exact ((HB.out.setCell (p := ⟨w.heap.size + 1 + 1, 2, none⟩) (by dsimp only; omega) _).setCell (p := ⟨w.heap.size + 1 + 1, 3, none⟩) (by dsimp only; omega) _)
  replace bR : Bk W3 (w.heap.size + 1) #[.int .i64 0, .bool false, .int .i64 0, .int .i64 0] 49 := by rw [← hW]; exact (bR.other (by omega) 2 _).other (by omega) 3 _
  clear bT_0 bT_1 bT_2 bT_3 bT_f0 bT_f1 bT_f2 bT_f3 bT_l
  replace bT : Bk W3 (w.heap.size + 1 + 1) #[.int .i64 K, .bool dn, .int .i64 lo, .int .i64 hi] 49 := by rw [← hW]; exact (bT.set 2 _ rfl).set 3 _ rfl
  clear hW
  replace HB := Lib.hid hb
  clear hb
  have bT_0 := bT.cell 0 rfl
  have bT_1 := bT.cell 1 rfl
  have bT_2 := bT.cell 2 rfl
  have bT_3 := bT.cell 3 rfl
  have bT_l := bT.lt
  have bR_0 := bR.cell 0 rfl
  have bR_1 := bR.cell 1 rfl
  have bR_2 := bR.cell 2 rfl
  have bR_3 := bR.cell 3 rfl
  have bR_f0 := bR.frozen 0
  have bR_f1 := bR.frozen 1
  have bR_f2 := bR.frozen 2
  have bR_f3 := bR.frozen 3
  have bR_l := bR.lt
  go_wp2
  exact bodyPost_ret (v := .agg #[.int .i64 K, .bool dn, .int .i64 lo, .int .i64 hi]) (by simp [results, Try.results49, go_sem, bR_0, bR_1, bR_2, bR_3]) rfl ⟨rfl, (by first | exact HB.out | exact ((((HB.out.setCell (p := ⟨w.heap.size + 1, 0, none⟩) (by dsimp only; omega) _).setCell (p := ⟨w.heap.size + 1, 1, none⟩) (by dsimp only; omega) _).setCell (p := ⟨w.heap.size + 1, 2, none⟩) (by dsimp only; omega) _).setCell (p := ⟨w.heap.size + 1, 3, none⟩) (by dsimp only; omega) _))⟩

set_option maxRecDepth 100000 in
set_option maxHeartbeats 2000000 in
theorem eqrs_any (w : World) (K lo hi : Int) (dn : Bool) :
    Calls Try.prog 51 #[.agg #[.int .i64 K, .bool dn, .int .i64 lo, .int .i64 hi], .agg #[.int .i64 K, .bool dn, .int .i64 lo, .int .i64 hi]] w fun e w' => e = .returned (.bool true) ∧ Below w.heap.size w w' := by
  have K1 : Hid (∀ W : World, Calls Try.prog 18 #[.agg #[.int .i64 lo, .int .i64 hi], .agg #[.int .i64 lo, .int .i64 hi]] W fun e w' => e = .returned (.bool true) ∧ Below W.heap.size W w') := Lib.hid (fun W => by have := eqv_any lo hi lo hi W; simpa only [beq_self_eq_true, Bool.and_self] using this)
  go_enter Try.func51, Try.ntmps51
  go_wp2_with fail
  generalize hW : World.alloc _ _ = W
  have bA : Bk W (w.heap.size) #[.int .i64 K, .bool dn, .int .i64 lo, .int .i64 hi] 49 := by rw [← hW]; repeat (first | (refine Bk.new' ?_; (simp; done)) | refine Bk.alloc ?_ _)
  have bB : Bk W (w.heap.size + 1) #[.int .i64 K, .bool dn, .int .i64 lo, .int .i64 hi] 49 := by rw [← hW]; repeat (first | (refine Bk.new' ?_; (simp; done)) | refine Bk.alloc ?_ _)
  have HB : Hid (Below w.heap.size w W) := Lib.hid (by rw [← hW]; exact (by repeat (first | exact Below.refl _ _ | (refine Below.alloc ?_ (by simp <;> omega) _) | (refine Below.setCell ?_ (by simp <;> omega) _) | (refine Below.drew ?_) | (refine bel_drewN ?_ _))))
  clear hW
  (with_reducible refine Calls.mono (K1.out _) ?_)
  rintro e w1 ⟨rfl, hb⟩
  go_wp2
  go_ret
  exact ⟨rfl, bel_end HB.out hb⟩
end Go.Proofs.Ythbcllejojnboaa
