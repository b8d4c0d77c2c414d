/- The walks of the exact laws of IsRatio, MakeRatio, InvertRatio and RatioBounds: each returns true and writes nothing that was there. -/
import Derived.Test.YtkbgbhbnkffneaaRat2
import Derived.Test.YtkbgbhbnkffneaaTwo
namespace Go.Proofs.Ytkbgbhbnkffneaa
open Go.ChangeShapes Go.WideShapes Go.ChangeAt Go.RowKit Num
set_option linter.unusedVariables false
theorem tor_any (a b : Int) (w : World) :
    Calls Try.prog 53 #[.agg #[.int .i64 a, .int .i64 b]] w fun e w' => e = .returned (.agg #[.int .i64 a, .int .i64 b]) ∧ Below w.heap.size w w' := by
  go_enter Try.func53, Try.ntmps53
  go_wp2
  exact bodyPost_ret (v := .agg #[.int .i64 a, .int .i64 b]) (by simp [results, Try.results53, go_sem]) rfl ⟨rfl, (by repeat (first | exact Below.refl _ _ | (refine Below.alloc ?_ (by simp <;> omega) _) | (refine Below.setCell ?_ (by simp <;> omega) _) | (refine Below.drew ?_) | (refine bel_drewN ?_ _)))⟩

theorem eqr_any (a b c d : Int) (w : World) :
    Calls Try.prog 54 #[.agg #[.int .i64 a, .int .i64 b], .agg #[.int .i64 c, .int .i64 d]] w fun e w' => e = .returned (.bool (a == c && b == d)) ∧ Below w.heap.size w w' := by
  cases ha : (a == c) <;> cases hb : (b == d)
  all_goals
    have ha' : (a != c) = !(a == c) := rfl
    have hb' : (b != d) = !(b == d) := rfl
    rw [ha] at ha'
    rw [hb] at hb'
    go_enter Try.func54, Try.ntmps54
    go_wp2
    go_ret
    exact ⟨rfl, (by repeat (first | exact Below.refl _ _ | (refine Below.alloc ?_ (by simp <;> omega) _) | (refine Below.setCell ?_ (by simp <;> omega) _) | (refine Below.drew ?_) | (refine bel_drewN ?_ _)))⟩

theorem lisr (a0 b0 : Int) (w : World) :
    Calls Try.prog 9 #[.agg #[.int .i64 a0, .int .i64 b0]] w fun e w' => e = .returned (.bool true) ∧ Below w.heap.size w w' := by
  go_enter Try.func9, Try.ntmps9
  go_wp2_with fail
  refine (tor_any _ _ _).mono ?_
  rintro e w1 ⟨rfl, hb⟩
  have B1 := Lib.hid hb
  clear hb
  obtain ⟨hc, -, -⟩ := bel_rules B1.out
  go_wp2_with fail
  refine (srt_any _ _ _).mono ?_
  rintro e w2 ⟨rfl, hb⟩
  have B2 := Lib.hid (B1.out.trans (hb.mono B1.out.size))
  clear hb hc
  obtain ⟨hc, -, -⟩ := bel_rules B2.out
  go_wp2_with fail
  refine (tor_any _ _ _).mono ?_
  rintro e w3 ⟨rfl, hb⟩
  have B3 := Lib.hid (B2.out.trans (hb.mono B2.out.size))
  clear hb hc
  obtain ⟨hc, -, -⟩ := bel_rules B3.out
  go_wp2_with fail
  refine (irt_any _ _ _).mono ?_
  rintro e w4 ⟨rfl, hb⟩
  have B4 := Lib.hid (B3.out.trans (hb.mono B3.out.size))
  clear hb hc
  obtain ⟨hc, -, -⟩ := bel_rules B4.out
  go_wp2
  go_ret
  exact ⟨rfl, bel_end (by repeat (first | exact Below.refl _ _ | (refine Below.alloc ?_ (by simp <;> omega) _) | (refine Below.setCell ?_ (by simp <;> omega) _) | (refine Below.drew ?_) | (refine bel_drewN ?_ _))) B4.out⟩

set_option maxHeartbeats 1000000 in
theorem lmkr (a0 a1 : Int) (v0 : (Lit.int .i64 a0).wf = true) (v1 : (Lit.int .i64 a1).wf = true) (w : World) :
    Calls Try.prog 10 #[.int .i64 a0, .int .i64 a1] w fun e w' => e = .returned (.bool true) ∧ Below w.heap.size w w' := by
  clear v0 v1
  obtain ⟨U, hU⟩ : ∃ U, madT a0 a1 = U := ⟨_, rfl⟩
  have HU := Lib.hid hU
  clear hU
  obtain ⟨p, q, c⟩ := U
  go_enter Try.func10, Try.ntmps10
  go_wp2_with fail
  refine (smk_any _ _ _).mono ?_
  rw [HU.out]
  rintro e w1 ⟨rfl, hb⟩
  have B1 := Lib.hid hb
  clear hb
  go_wp2_with fail
  refine (imk_any _ _ _).mono ?_
  rw [HU.out]
  rintro e w2 ⟨rfl, hb⟩
  have x0 : w2.cell? ⟨w1.heap.size, 0, none⟩ = some (.int .i64 p) := (hb.cell (p := ⟨w1.heap.size, 0, none⟩) (by simp)).trans (by simp [go_sem])
  have x1 : w2.cell? ⟨w1.heap.size, 1, none⟩ = some (.int .i64 q) := (hb.cell (p := ⟨w1.heap.size, 1, none⟩) (by simp)).trans (by simp [go_sem])
  have hlt := World.block_lt_of_cell? w2 _ x0
  have B2 := Lib.hid (bel_end (B1.out.alloc B1.out.size (.cells #[.int .i64 p, .int .i64 q] 42)) hb)
  clear hb
  go_wp2_with fail
  refine (eqr_any _ _ _ _ _).mono ?_
  rintro e w3 ⟨rfl, hb⟩
  have B3 := Lib.hid (bel_end (B2.out.alloc B2.out.size (.cells #[.int .i64 p, .int .i64 q] 42)) hb)
  clear hb
  go_wp2
  go_ret
  exact ⟨rfl, B3.out⟩

set_option maxHeartbeats 1000000 in
theorem linr (a0 b0 : Int) (w : World) :
    Calls Try.prog 13 #[.agg #[.int .i64 a0, .int .i64 b0]] w fun e w' => e = .returned (.bool true) ∧ Below w.heap.size w w' := by
  go_enter Try.func13, Try.ntmps13
  go_upto_region 1 with fail
  obtain ⟨W, hW⟩ : ∃ W, W = w.alloc (.cells #[.int .i64 a0, .int .i64 b0] 55) := ⟨_, rfl⟩
  have c0 : W.cell? ⟨w.heap.size, 0, none⟩ = some (.int .i64 a0) := by rw [hW]; simp [go_sem]
  have c1 : W.cell? ⟨w.heap.size, 1, none⟩ = some (.int .i64 b0) := by rw [hW]; simp [go_sem]
  have hlt := World.block_lt_of_cell? W _ c0
  have HB : Hid (Below w.heap.size w W) := Lib.hid (by rw [hW]; exact (by repeat (first | exact Below.refl _ _ | (refine Below.alloc ?_ (by simp <;> omega) _) | (refine Below.setCell ?_ (by simp <;> omega) _) | (refine Below.drew ?_) | (refine bel_drewN ?_ _))))
  rw [← hW]
  clear hW
  go_cut [3, 4] (fun s5 s6 wx => Res2 W wx s5 s6 (invT a0 b0).1 (invT a0 b0).2.1 (invT a0 b0).2.2)
  case first =>
    go_wp2_with fail
    refine (tor_any _ _ _).mono ?_
    rintro e w1 ⟨rfl, hb⟩
    have B1 := Lib.hid hb
    clear hb
    obtain ⟨hc, -, -⟩ := bel_rules B1.out
    go_wp2_with fail
    refine (siv_any _ _ _).mono ?_
    rintro e w2 ⟨rfl, hb⟩
    have B2 := Lib.hid (B1.out.trans (hb.mono B1.out.size))
    clear hb hc
    obtain ⟨hc, -, -⟩ := bel_rules B2.out
    go_wp2_with fail
    go_meet
    exact ⟨_, rfl, rfl, by go_simp, by go_simp, B2.out.size, B2.out.alloc B2.out.size _⟩
  case rest =>
    obtain ⟨g5, rfl, rfl, x0, x1, hg, hB⟩ := hcut
    have d0 := keep1 c0 hB
    have d1 := keep1 c1 hB
    have hlt2 := Nat.lt_of_lt_of_le hlt hB.size
    have HB2 := Lib.hid (bel_end HB.out hB)
    clear c0 c1 hB HB hg hlt
    go_upto_region 2 with fail
    go_cut [5, 6] (fun s5 s6 wx => Res2 wc wx s5 s6 (invT a0 b0).1 (invT a0 b0).2.1 (invT a0 b0).2.2)
    case first =>
      go_wp2_with fail
      refine (tor_any _ _ _).mono ?_
      rintro e w1 ⟨rfl, hb⟩
      have B1 := Lib.hid hb
      clear hb
      obtain ⟨hc, -, -⟩ := bel_rules B1.out
      go_wp2_with fail
      refine (iiv_any _ _ _).mono ?_
      rintro e w2 ⟨rfl, hb⟩
      have B2 := Lib.hid (B1.out.trans (hb.mono B1.out.size))
      clear hb hc
      obtain ⟨hc, -, -⟩ := bel_rules B2.out
      go_wp2_with fail
      go_meet
      exact ⟨_, rfl, rfl, by go_simp, by go_simp, B2.out.size, B2.out.alloc B2.out.size _⟩
    case rest =>
      obtain ⟨g7, rfl, rfl, y0, y1, hg, hB⟩ := hcut
      have z0 := keep1 x0 hB
      have z1 := keep1 x1 hB
      have HB3 := Lib.hid (bel_end HB2.out hB)
      clear d0 d1 x0 x1 hB HB2 hg hlt2
      go_wp2_with fail
      refine (eqr_any _ _ _ _ _).mono ?_
      rintro e w9 ⟨rfl, hb⟩
      have HB4 := Lib.hid (bel_end HB3.out hb)
      clear hb
      go_wp2
      go_ret
      exact ⟨rfl, HB4.out⟩
end Go.Proofs.Ytkbgbhbnkffneaa
