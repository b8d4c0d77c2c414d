/- The walks of the exact laws of functions of two intervals: each returns true and writes nothing that was there. -/
import Derived.Test.YtfcbagjjpclplaaBas
import Derived.Test.YtfcbagjjpclplaaQuo
import Derived.Deep.RegionHeld3
import Derived.Deep.DeepCutAuto
import Derived.Deep.DrawnRows
import Derived.Outline
namespace Go.Proofs.Ytfcbagjjpclplaa
open Go.ChangeShapes Go.WideShapes Go.ChangeAt Go.RowKit
set_option linter.unusedVariables false
attribute [local go_sem ↓] Go.wp_at_zero Go.wp_at_succ


set_option maxHeartbeats 2000000 in
theorem lqti (a0 b0 a1 b1 : Int) (w : World) :
    Calls Try.prog 5 #[.agg #[.int .i64 a0, .int .i64 b0], .agg #[.int .i64 a1, .int .i64 b1]] w fun e w' => e = .returned (.bool true) ∧ Below w.heap.size w w' := by
  go_enter Try.func5, Try.ntmps5
  go_upto_region 1 with fail
  obtain ⟨W, hW⟩ : ∃ W, W = (w.alloc (.cells #[.int .i64 a0, .int .i64 b0] 45)).alloc (.cells #[.int .i64 a1, .int .i64 b1] 45) := ⟨_, rfl⟩
  have c0 : W.cell? ⟨w.heap.size, 0, none⟩ = some (.int .i64 a0) := by rw [hW]; simp [go_sem]
  have c1 : W.cell? ⟨w.heap.size, 1, none⟩ = some (.int .i64 b0) := by rw [hW]; simp [go_sem]
  have c2 : W.cell? ⟨w.heap.size + 1, 0, none⟩ = some (.int .i64 a1) := by rw [hW]; simp [go_sem]
  have c3 : W.cell? ⟨w.heap.size + 1, 1, none⟩ = some (.int .i64 b1) := by rw [hW]; simp [go_sem]
  have HB : Hid (Below w.heap.size w W) := Lib.hid (by rw [hW]; exact (by repeat (first | exact Below.refl _ _ | (refine Below.alloc ?_ (by simp <;> omega) _) | (refine Below.setCell ?_ (by simp <;> omega) _) | (refine Below.drew ?_) | (refine bel_drewN ?_ _))))
  rw [← hW]
  clear hW
  go_cut [5, 6] (fun s5 s6 wx => Res2 W wx s5 s6 (quoT a0 b0 a1 b1).1 (quoT a0 b0 a1 b1).2.1 (quoT a0 b0 a1 b1).2.2)
  case first =>
    go_region_held3 (fun w' => w'.cell? ⟨w.heap.size, 0, none⟩ = some (.int .i64 a0) ∧ w'.cell? ⟨w.heap.size, 1, none⟩ = some (.int .i64 b0) ∧
       w'.cell? ⟨w.heap.size + 1, 0, none⟩ = some (.int .i64 a1) ∧ w'.cell? ⟨w.heap.size + 1, 1, none⟩ = some (.int .i64 b1) ∧ Below W.heap.size W w')
      (first
        | (exact keep4 c0 c1 c2 c3 (Below.refl _ W).drew)
        | (go_split_ands; exact keep4 c0 c1 c2 c3 (bel_in hb (by assumption) (Nat.le_refl _)))
        | (go_split_ands; exact keep4 c0 c1 c2 c3 (bel_al (by assumption) (Nat.le_refl _)))
        | (go_split_ands; refine keep4 c0 c1 c2 c3 (Below.setCell (by assumption) ?_ _); (dsimp only; omega))
        | (go_split_ands; refine keep4 c0 c1 c2 c3 (Below.setCell (Below.setCell (by assumption) ?_ _) ?_ _) <;> (dsimp only; omega)))
      (first
        | (go_at_call 23; refine (toi_any _ _ _).mono ?_; rintro e w1 ⟨rfl, hb⟩; obtain ⟨hc, hf, hz⟩ := bel_rules hb; (try have hy := lt_trans_rule (by assumption) hz); have hk := bel_in hb (by go_split_ands; assumption) (Nat.le_refl _); have hn := hk.size)
        | (go_at_call 15; refine (sqt_any _ _ _ _ _).mono ?_; rintro e w1 ⟨rfl, hb⟩; obtain ⟨hc, hf, hz⟩ := bel_rules hb; (try have hy := lt_trans_rule (by assumption) hz); have hk := bel_in hb (by go_split_ands; assumption) (Nat.le_refl _); have hn := hk.size))
    all_goals (go_wp2_with fail; go_meet; go_split_ands)
    all_goals (refine ⟨_, rfl, rfl, ?_, ?_, ?_, by assumption⟩)
    all_goals first | (go_simp; done) | (refine (set2_cells (x := .int .i64 0) (y := .int .i64 0) ?_ ?_).1 <;> (go_simp; done)) | (refine (set2_cells (x := .int .i64 0) (y := .int .i64 0) ?_ ?_).2 <;> (go_simp; done)) | omega
  case rest =>
    obtain ⟨g5, rfl, rfl, x0, x1, hg, hB⟩ := hcut
    have d0 := keep1 c0 hB
    have d1 := keep1 c1 hB
    have d2 := keep1 c2 hB
    have d3 := keep1 c3 hB
    have HB2 := Lib.hid (bel_end HB.out hB)
    clear c0 c1 c2 c3 hB HB hg
    go_upto_region 2 with fail
    go_cut [7, 8] (fun s5 s6 wx => Res2 wc wx s5 s6 (quoT a0 b0 a1 b1).1 (quoT a0 b0 a1 b1).2.1 (quoT a0 b0 a1 b1).2.2)
    case first =>
      go_region_held3 (fun w' => w'.cell? ⟨w.heap.size, 0, none⟩ = some (.int .i64 a0) ∧ w'.cell? ⟨w.heap.size, 1, none⟩ = some (.int .i64 b0) ∧
         w'.cell? ⟨w.heap.size + 1, 0, none⟩ = some (.int .i64 a1) ∧ w'.cell? ⟨w.heap.size + 1, 1, none⟩ = some (.int .i64 b1) ∧ Below wc.heap.size wc w')
        (first
          | (exact keep4 d0 d1 d2 d3 (Below.refl _ wc).drew)
          | (go_split_ands; exact keep4 d0 d1 d2 d3 (bel_in hb (by assumption) (Nat.le_refl _)))
          | (go_split_ands; exact keep4 d0 d1 d2 d3 (bel_al (by assumption) (Nat.le_refl _)))
          | (go_split_ands; refine keep4 d0 d1 d2 d3 (Below.setCell (by assumption) ?_ _); (dsimp only; omega))
          | (go_split_ands; refine keep4 d0 d1 d2 d3 (Below.setCell (Below.setCell (by assumption) ?_ _) ?_ _) <;> (dsimp only; omega)))
        (first
          | (go_at_call 23; refine (toi_any _ _ _).mono ?_; rintro e w1 ⟨rfl, hb⟩; obtain ⟨hc, hf, hz⟩ := bel_rules hb; (try have hy := lt_trans_rule (by assumption) hz); have hk := bel_in hb (by go_split_ands; assumption) (Nat.le_refl _); have hn := hk.size)
          | (go_at_call 14; refine (iqt_any _ _ _ _ _).mono ?_; rintro e w1 ⟨rfl, hb⟩; obtain ⟨hc, hf, hz⟩ := bel_rules hb; (try have hy := lt_trans_rule (by assumption) hz); have hk := bel_in hb (by go_split_ands; assumption) (Nat.le_refl _); have hn := hk.size))
      all_goals (go_wp2_with fail; go_meet; go_split_ands)
      all_goals (refine ⟨_, rfl, rfl, ?_, ?_, ?_, by assumption⟩)
      all_goals first | (go_simp; done) | (refine (set2_cells (x := .int .i64 0) (y := .int .i64 0) ?_ ?_).1 <;> (go_simp; done)) | (refine (set2_cells (x := .int .i64 0) (y := .int .i64 0) ?_ ?_).2 <;> (go_simp; done)) | omega
    case rest =>
      obtain ⟨g7, rfl, rfl, y0, y1, hg, hB⟩ := hcut
      have z0 := keep1 x0 hB
      have z1 := keep1 x1 hB
      have HB3 := Lib.hid (bel_end HB2.out hB)
      clear d0 d1 d2 d3 x0 x1 hB HB2 hg
      go_wp2_with fail
      refine (eqv_any _ _ _ _ _).mono ?_
      rintro e w9 ⟨rfl, hb⟩
      have HB4 := Lib.hid (bel_end HB3.out hb)
      clear hb
      go_wp2
      go_ret
      exact ⟨rfl, HB4.out⟩
end Go.Proofs.Ytfcbagjjpclplaa
