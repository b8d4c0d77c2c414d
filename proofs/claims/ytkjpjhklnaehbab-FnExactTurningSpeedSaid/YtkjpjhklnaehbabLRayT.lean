/- The walk of the exact law of TurningSpeed: it returns true and writes nothing that was there. -/
import Derived.Test.YtkjpjhklnaehbabLws
import Derived.Test.YtkjpjhklnaehbabTrn
import Derived.Deep.RegionHeld3
import Derived.Deep.DeepCutAuto
import Derived.Deep.DrawnRows
import Derived.Deep.RegionWith
import Derived.Outline
namespace Go.Proofs.Ytkjpjhklnaehbab
open Go.ChangeShapes Go.WideShapes Go.ChangeAt Go.RowKit Go.Shelf Num
set_option linter.unusedVariables false
attribute [local go_sem ↓] Go.wp_at_zero Go.wp_at_succ

set_option maxRecDepth 100000 in
set_option maxHeartbeats 4000000 in
theorem ltsp (a0 : Option Addr) (len0 cap0 : Nat) (z0 : List Int) (b0 : Option Addr) (len1 cap1 : Nat) (y0 : List Int) (src c s h : Int) (w : World) (w0 : IsRow .i64 w a0 len0 cap0 z0) (v0 : IsRow .i64 w b0 len1 cap1 y0) (w1 : (Lit.int .i64 src).wf = true) :
    Calls Try.prog 3 #[.agg #[.slice a0 len0 cap0, .slice b0 len1 cap1], .int .i64 src, .agg #[.int .i64 c, .int .i64 s, .int .i64 h]] w fun e w' => e = .returned (.bool true) ∧ Below w.heap.size w w' := by
  obtain ⟨hm, hn, e1, e2, hp⟩ := Prof.of_in w0 v0
  clear w0 v0
  obtain ⟨zs, hzs⟩ : ∃ zs, z0.take len0 = zs := ⟨_, rfl⟩
  obtain ⟨ys, hys⟩ : ∃ ys, y0.take len1 = ys := ⟨_, rfl⟩
  rw [hzs] at e1 hp
  rw [hys] at e2 hp
  subst e1 e2
  clear hzs hys w1
  by_cases hbig : 1048576 < zs.length + ys.length
  · have hz := szP_big hbig
    have HZ := Lib.hid hz
    clear hz hp
    go_enter Try.func3, Try.ntmps3
    go_wp2_with fail
    refine (szp_any _ _ _ _ _ _ _ hm hn).mono ?_
    rw [HZ.out]
    rintro e w1 ⟨rfl, hb⟩
    have HB : Hid (Below w.heap.size w w1) := Lib.hid (bel_end (by repeat (first | exact Below.refl _ _ | (refine Below.alloc ?_ (by simp <;> omega) _) | (refine Below.setCell ?_ (by simp <;> omega) _) | (refine Below.drew ?_) | (refine bel_drewN ?_ _))) hb)
    clear hb
    go_wp2
    go_ret
    exact ⟨rfl, HB.out⟩
  have hz := szP_fit hbig
  have HP := Lib.hid (hp (by omega))
  have lz := HP.out.lz
  have ly := HP.out.ly
  clear hp
  obtain ⟨q, hq⟩ : ∃ q, szP zs.length ys.length = q := ⟨_, rfl⟩
  have hq0 : 0 ≤ q := hq ▸ hz
  have HQ := Lib.hid hq
  clear hz hq
  go_enter Try.func3, Try.ntmps3
  go_wp2_with fail
  generalize hW : World.alloc _ _ = W0
  have bX : Bk W0 w.heap.size #[.slice a0 zs.length cap0, .slice b0 ys.length cap1] 24 := by rw [← hW]; repeat (first | exact Bk.new' (by simp) | refine Bk.alloc ?_ _)
  have bD : Bk W0 (w.heap.size + 1) #[.int .i64 c, .int .i64 s, .int .i64 h] 26 := by rw [← hW]; repeat (first | exact Bk.new' (by simp) | refine Bk.alloc ?_ _)
  have hb : Below w.heap.size w W0 := by rw [← hW]; exact (by repeat (first | exact Below.refl _ _ | (refine Below.alloc ?_ (by simp <;> omega) _) | (refine Below.setCell ?_ (by simp <;> omega) _) | (refine Below.drew ?_) | (refine bel_drewN ?_ _)))
  replace HP := Lib.hid (HP.out.on hb)
  have HB := Lib.hid hb
  clear hW hb
  refine (szp_any _ _ _ _ _ _ _ hm hn).mono ?_
  rw [HQ.out]
  rintro e W ⟨rfl, hb⟩
  replace bX := bX.on hb
  replace bD := bD.on hb
  replace HP := Lib.hid (HP.out.on hb)
  replace HB := Lib.hid (bel_end HB.out hb)
  clear hb
  go_upto_region 5 with fail
  go_cut [8, 9] (fun s5 s6 wx => Res2 W wx s5 s6 (tsT zs ys src c s h).1 (tsT zs ys src c s h).2.1 (tsT zs ys src c s h).2.2)
  case first =>
    go_region_held3 (fun w' => w'.cell? ⟨w.heap.size, 0, none⟩ = some (.slice a0 zs.length cap0) ∧ w'.cell? ⟨w.heap.size, 1, none⟩ = some (.slice b0 ys.length cap1) ∧ w'.cell? ⟨w.heap.size + 1, 0, none⟩ = some (.int .i64 c) ∧ w'.cell? ⟨w.heap.size + 1, 1, none⟩ = some (.int .i64 s) ∧ w'.cell? ⟨w.heap.size + 1, 2, none⟩ = some (.int .i64 h) ∧ Below W.heap.size W w')
      (first
        | (exact at23 bX bD (Below.refl _ W).drew)
        | (go_split_ands; exact at23 bX bD (bel_in hb (by assumption) (Nat.le_refl _)))
        | (go_split_ands; exact at23 bX bD (bel_al (by assumption) (Nat.le_refl _)))
        | (go_split_ands; refine at23 bX bD (Below.setCell (by assumption) ?_ _); (dsimp only; omega))
        | (go_split_ands; refine at23 bX bD (Below.setCell (Below.setCell (by assumption) ?_ _) ?_ _) <;> (dsimp only; omega)))
      (first
        | (go_at_call 8; (refine Calls.mono (top_any _ _ _ _ _ zs ys (HP.out.on ?hq)) ?_); (case hq => first | (go_split_ands; assumption) | (go_split_ands; exact bel_al (by assumption) (Nat.le_refl _))); rintro e w1 ⟨g1, g2, rfl, hg1, hg2, hr1, hr2, hb⟩; obtain ⟨hc, hf, hz⟩ := bel_rules hb; (try have hy := lt_trans_rule (by assumption) hz); have hk := bel_in hb (by go_split_ands; assumption) (Nat.le_refl _); have hn := hk.size)
        | (go_at_call 9; refine (tod_any _ _ _ _).mono ?_; rintro e w1 ⟨rfl, hb⟩; (try have hr1 := (by first | exact rowIs_on hr1 hb | exact rowIs_on (rowIs_al hr1) hb)); (try have hr2 := (by first | exact rowIs_on hr2 hb | exact rowIs_on (rowIs_al hr2) hb)); obtain ⟨hc, hf, hz⟩ := bel_rules hb; (try have hy := lt_trans_rule (by assumption) hz); have hk := bel_in hb (by go_split_ands; assumption) (Nat.le_refl _); have hn := hk.size)
        | (go_at_call 7; refine (sts_any _ _ _ _ _ zs ys src c s h (by first | exact Prof.of_rows hr1 hr2 lz ly | exact (Prof.of_rows hr1 hr2 lz ly).on bel_1)).mono ?_; rintro e w1 ⟨rfl, hb⟩; obtain ⟨hc, hf, hz⟩ := bel_rules hb; (try have hy := lt_trans_rule (by assumption) hz); have hk := bel_in hb (by go_split_ands; assumption) (Nat.le_refl _); have hn := hk.size))
    all_goals (go_wp2_with fail; go_meet; go_split_ands)
    all_goals (refine ⟨_, rfl, rfl, ?_, ?_, ?_, by assumption⟩)
    all_goals first | (go_simp; done) | (refine (set2_cells (x := .int .i64 0) (y := .int .i64 0) ?_ ?_).1 <;> (go_simp; done)) | (refine (set2_cells (x := .int .i64 0) (y := .int .i64 0) ?_ ?_).2 <;> (go_simp; done)) | omega
  case rest =>
    obtain ⟨g5, rfl, rfl, u0, u1, hg5, hB⟩ := hcut
    replace bX := bX.on hB
    replace bD := bD.on hB
    replace HP := Lib.hid (HP.out.on hB)
    replace HB := Lib.hid (bel_end HB.out hB)
    clear hB
    have x0 := bX.cell 0 rfl
    have x1 := bX.cell 1 rfl
    have xl := bX.lt
    go_wp2_with fail
    refine (top_any _ _ _ _ _ zs ys HP.out).mono ?_
    rintro e w2 ⟨g3, g4, rfl, hg3, hg4, hr1, hr2, hb⟩
    replace bX := bX.on hb
    replace bD := bD.on hb
    replace HP := Lib.hid (HP.out.on hb)
    replace HB := Lib.hid (bel_end HB.out hb)
    replace u0 := keep1 u0 hb
    replace u1 := keep1 u1 hb
    have HR := Lib.hid (Prof.of_rows hr1 hr2 lz ly)
    clear hr1 hr2 hg3 hg4 hb x0 x1 xl hg5
    go_upto_region 7 with fail
    generalize hW : World.alloc _ _ = W3
    have hb : Below w2.heap.size w2 W3 := by rw [← hW]; exact (by repeat (first | exact Below.refl _ _ | (refine Below.alloc ?_ (by simp <;> omega) _) | (refine Below.setCell ?_ (by simp <;> omega) _) | (refine Below.drew ?_) | (refine bel_drewN ?_ _)))
    have bY : Bk W3 w2.heap.size #[.slice (some ⟨g3, 0, none⟩) zs.length zs.length, .slice (some ⟨g4, 0, none⟩) ys.length ys.length] 32 := by rw [← hW]; exact Bk.new' rfl
    replace bX := bX.on hb
    replace bD := bD.on hb
    replace HP := Lib.hid (HP.out.on hb)
    replace HR := Lib.hid (HR.out.on hb)
    replace HB := Lib.hid (bel_end HB.out hb)
    replace u0 := keep1 u0 hb
    replace u1 := keep1 u1 hb
    clear hW hb
    go_cut [11, 12] (fun s5 s6 wx => Res2 W3 wx s5 s6 (tsT zs ys src c s h).1 (tsT zs ys src c s h).2.1 (tsT zs ys src c s h).2.2)
    case first =>
      go_region_held3 (fun w' => w'.cell? ⟨w2.heap.size, 0, none⟩ = some (.slice (some ⟨g3, 0, none⟩) zs.length zs.length) ∧ w'.cell? ⟨w2.heap.size, 1, none⟩ = some (.slice (some ⟨g4, 0, none⟩) ys.length ys.length) ∧ w'.cell? ⟨w.heap.size + 1, 0, none⟩ = some (.int .i64 c) ∧ w'.cell? ⟨w.heap.size + 1, 1, none⟩ = some (.int .i64 s) ∧ w'.cell? ⟨w.heap.size + 1, 2, none⟩ = some (.int .i64 h) ∧ Below W3.heap.size W3 w')
        (first
          | (exact at23 bY bD (Below.refl _ W3).drew)
          | (go_split_ands; exact at23 bY bD (bel_in hb (by assumption) (Nat.le_refl _)))
          | (go_split_ands; exact at23 bY bD (bel_al (by assumption) (Nat.le_refl _)))
          | (go_split_ands; refine at23 bY bD (Below.setCell (by assumption) ?_ _); (dsimp only; omega))
          | (go_split_ands; refine at23 bY bD (Below.setCell (Below.setCell (by assumption) ?_ _) ?_ _) <;> (dsimp only; omega)))
        (first
          | (go_at_call 9; refine (tod_any _ _ _ _).mono ?_; rintro e w1 ⟨rfl, hb⟩; obtain ⟨hc, hf, hz⟩ := bel_rules hb; (try have hy := lt_trans_rule (by assumption) hz); have hk := bel_in hb (by go_split_ands; assumption) (Nat.le_refl _); have hn := hk.size)
          | (go_at_call 10; (refine Calls.mono (its_any _ _ _ _ _ zs ys src c s h (HR.out.on ?hq)) ?_); (case hq => first | (go_split_ands; assumption) | (go_split_ands; exact bel_al (by assumption) (Nat.le_refl _))); rintro e w1 ⟨rfl, hb⟩; obtain ⟨hc, hf, hz⟩ := bel_rules hb; (try have hy := lt_trans_rule (by assumption) hz); have hk := bel_in hb (by go_split_ands; assumption) (Nat.le_refl _); have hn := hk.size))
      all_goals (go_wp2_with fail; go_meet; go_split_ands)
      all_goals (refine ⟨_, rfl, rfl, ?_, ?_, ?_, by assumption⟩)
      all_goals first | (go_simp; done) | (refine (set2_cells (x := .int .i64 0) (y := .int .i64 0) ?_ ?_).1 <;> (go_simp; done)) | (refine (set2_cells (x := .int .i64 0) (y := .int .i64 0) ?_ ?_).2 <;> (go_simp; done)) | omega
    case rest =>
      obtain ⟨g7, rfl, rfl, v0, v1, hg7, hB⟩ := hcut
      replace bX := bX.on hB
      replace bY := bY.on hB
      replace HP := Lib.hid (HP.out.on hB)
      replace HR := Lib.hid (HR.out.on hB)
      replace HB := Lib.hid (bel_end HB.out hB)
      replace u0 := keep1 u0 hB
      replace u1 := keep1 u1 hB
      clear hB hg7 bD
      go_wp2_with fail
      refine (eqr_any _ _ _ _ _).mono ?_
      simp only [beq_self_eq_true, Bool.and_self]
      rintro e w4 ⟨rfl, hb⟩
      replace bX := bX.on hb
      replace bY := bY.on hb
      replace HP := Lib.hid (HP.out.on hb)
      replace HR := Lib.hid (HR.out.on hb)
      replace HB := Lib.hid (bel_end HB.out hb)
      clear hb u0 u1 v0 v1
      go_upto_region 10 with fail
      have y0 := bY.cell 0 rfl
      have y1 := bY.cell 1 rfl
      have x0 := bX.cell 0 rfl
      have x1 := bX.cell 1 rfl
      have dw : ∀ {o : Nat} {v : Value} {V : World}, V.cell? ⟨w2.heap.size, o, none⟩ = some v → V.drew.cell? ⟨w2.heap.size, o, none⟩ = some v := fun h => h
      go_region_with (first
        | (go_at_call 8; refine (top_any _ _ _ _ _ zs ys HP.out.drew).mono ?_; rintro e wa ⟨g5, g6, rfl, hg5, hg6, hr1, hr2, hb⟩; have d0 := kc1 (dw y0) hb; have d1 := kc1 (dw y1) hb)
        | (go_at_call 12; refine (eqp_any _ _ _ _ _ _ _ _ _ zs ys zs ys (HR.out.drew.on hb) (Prof.of_rows hr1 hr2 lz ly)).mono ?_; rw [same_self]; rintro e wb ⟨rfl, hb2⟩))
      all_goals
        go_wp2_with fail
        go_ret
        exact ⟨rfl, bel_end (bel_end HB.out (bel_end (Below.refl _ _).drew hb)) hb2⟩
end Go.Proofs.Ytkjpjhklnaehbab
