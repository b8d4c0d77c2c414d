/- The contract of the program's MakeDirection. The contract of the model's MakeDirection. -/
import Derived.Test.YtkjpjhklnaehbabDrc
namespace Go.Proofs.Ytkjpjhklnaehbab
open Go.ChangeShapes Go.WideShapes Go.ChangeAt Go.RowKit Num
set_option linter.unusedVariables false

end Go.Proofs.Ytkjpjhklnaehbab
namespace Go.Proofs.Ytkjpjhklnaehbab
open Go.ChangeShapes Go.WideShapes Go.ChangeAt Go.RowKit Num
set_option linter.unusedVariables false

set_option maxRecDepth 100000 in
set_option maxHeartbeats 2000000 in
theorem smd_any (m n : Int) (d : Bool) (w : World) :
    Calls Try.prog 76 #[.int .i64 m, .int .i64 n, .bool d] w fun e w' => e = .returned (.tuple #[.agg #[.int .i64 (mdT m n d).1, .int .i64 (mdT m n d).2.1, .int .i64 (mdT m n d).2.2.1], .int .i64 (mdT m n d).2.2.2]) ∧ Below w.heap.size w w' := by
  cases hm : mnB m n
  · have HT : Hid (mdT m n d = (0, 0, 0, 2)) := Lib.hid (by unfold mdT; rw [hm]; rfl)
    cases h1 : inB n 2 1000
    · clear hm
      go_enter Try.func76, Try.ntmps76
      go_wp2_with (go_at_call 48; refine (lin_any _ _ _ _).mono ?_; rintro e w' ⟨rfl, rfl⟩)
      exact bodyPost_ret (v := .tuple #[.agg #[.int .i64 (0), .int .i64 (0), .int .i64 (0)], .int .i64 2]) (by simp [results, Try.results76, go_sem]) rfl ⟨res4 HT.out, (by repeat (first | exact Below.refl _ _ | (refine Below.alloc ?_ (by simp <;> omega) _) | (refine Below.setCell ?_ (by simp <;> omega) _) | (refine Below.drew ?_) | (refine bel_drewN ?_ _)))⟩
    have b1 := inB_t h1
    have e7 : IntKind.wrap .i64 (n - 1) = n - 1 := IntWalk.i64_in _ (by omega)
    cases h2 : inB m 1 (n - 1)
    · clear hm
      go_enter Try.func76, Try.ntmps76
      go_wp2_with (go_at_call 48; refine (lin_any _ _ _ _).mono ?_; rintro e w' ⟨rfl, rfl⟩)
      exact bodyPost_ret (v := .tuple #[.agg #[.int .i64 (0), .int .i64 (0), .int .i64 (0)], .int .i64 2]) (by simp [results, Try.results76, go_sem]) rfl ⟨res4 HT.out, (by repeat (first | exact Below.refl _ _ | (refine Below.alloc ?_ (by simp <;> omega) _) | (refine Below.setCell ?_ (by simp <;> omega) _) | (refine Below.drew ?_) | (refine bel_drewN ?_ _)))⟩
    have b2 := inB_t h2
    have e1 : IntKind.wrap .i64 (n * n) = n * n := wr_mul (A := 1000) (B := 1000) (by omega) (by omega) (by omega) (by omega) (by omega) (by omega)
    have e2 : IntKind.wrap .i64 (m * m) = m * m := wr_mul (A := 1000) (B := 1000) (by omega) (by omega) (by omega) (by omega) (by omega) (by omega)
    have q1 := mul_abs (a := n) (n := n) (A := 1000) (N := 1000) (by omega) (by omega)
    have q2 := mul_abs (a := m) (n := m) (A := 1000) (N := 1000) (by omega) (by omega)
    have e5 : IntKind.wrap .i64 (n * n + m * m) = n * n + m * m := IntWalk.i64_in _ (by omega)
    have h4 : 1000 < n * n + m * m := by
      rcases Int.lt_or_le 1000 (n * n + m * m) with l | l
      · exact l
      · have : mnB m n = true := by
          unfold mnB
          simp only [Bool.and_eq_true, decide_eq_true_eq]
          exact ⟨⟨⟨by omega, by omega⟩, by omega⟩, l⟩
        rw [this] at hm; cases hm
    clear hm q1 q2
    go_enter Try.func76, Try.ntmps76
    go_wp2_with (go_at_call 48; refine (lin_any _ _ _ _).mono ?_; rintro e w' ⟨rfl, rfl⟩)
    exact bodyPost_ret (v := .tuple #[.agg #[.int .i64 (0), .int .i64 (0), .int .i64 (0)], .int .i64 2]) (by simp [results, Try.results76, go_sem]) rfl ⟨res4 HT.out, (by repeat (first | exact Below.refl _ _ | (refine Below.alloc ?_ (by simp <;> omega) _) | (refine Below.setCell ?_ (by simp <;> omega) _) | (refine Below.drew ?_) | (refine bel_drewN ?_ _)))⟩
  obtain ⟨p1, p2, p3, p4, p5, p6⟩ := mn_pos hm
  obtain ⟨m1, m2, m3, m4⟩ := mnB_t hm
  have ok := mn_ok hm
  have e1 : IntKind.wrap .i64 (n * n) = n * n := wr_mul (A := 1000) (B := 1000) (by omega) (by omega) (by omega) (by omega) (by omega) (by omega)
  have e2 : IntKind.wrap .i64 (m * m) = m * m := wr_mul (A := 1000) (B := 1000) (by omega) (by omega) (by omega) (by omega) (by omega) (by omega)
  have e3 : IntKind.wrap .i64 (2 * m) = 2 * m := IntWalk.i64_in _ (by omega)
  have e4 : IntKind.wrap .i64 (2 * m * n) = 2 * m * n := IntWalk.i64_in _ (by omega)
  have e5 : IntKind.wrap .i64 (n * n + m * m) = n * n + m * m := IntWalk.i64_in _ (by omega)
  have e6 : IntKind.wrap .i64 (n * n - m * m) = n * n - m * m := IntWalk.i64_in _ (by omega)
  have e7 : IntKind.wrap .i64 (n - 1) = n - 1 := IntWalk.i64_in _ (by omega)
  have o1 := ok.c1
  have o2 := ok.c2
  have o3 := ok.s1
  have o4 := ok.s2
  have o5 := ok.h1
  have o6 := ok.h2
  have HT : Hid (mdT m n d = (mc m n, if d then ms m n else -(ms m n), mh m n, 0)) := Lib.hid (by unfold mdT; rw [hm]; rfl)
  have h1 : inB n 2 1000 = true := inB_mk (by omega) (by omega)
  have h2 : inB m 1 (n - 1) = true := inB_mk (by omega) (by omega)
  have hg : 0 < mg m n := g3_pos (by omega)
  have gz : ¬ mg m n = 0 := by omega
  have gb : (mg m n == 0) = false := by simp; omega
  have k0 : 0 ≤ gc (n * n - m * m) (2 * m * n) := Int.natCast_nonneg _
  have k1 : gc (n * n - m * m) (2 * m * n) ≤ 1000 := by have := gc_le (a := n * n - m * m) (b := 2 * m * n) (by omega); omega
  have D1 : Hid (∀ w : World, Calls Try.prog 49 #[.int .i64 (n * n - m * m), .int .i64 (2 * m * n)] w fun e w' => e = .returned (.int .i64 (gc (n * n - m * m) (2 * m * n))) ∧ ∃ n, w' = w.drewN n) := Lib.hid (fun w => ldv_any _ _ (by omega) (by omega) (by omega) (by omega) w)
  have D2 : Hid (∀ w : World, Calls Try.prog 49 #[.int .i64 (gc (n * n - m * m) (2 * m * n)), .int .i64 (n * n + m * m)] w fun e w' => e = .returned (.int .i64 (mg m n)) ∧ ∃ n, w' = w.drewN n) := Lib.hid (fun w => ldv_any _ _ (by omega) (by omega) (by omega) (by omega) w)
  have HX : Hid ((n * n - m * m).tdiv (mg m n) = mc m n) := Lib.hid rfl
  have HY : Hid ((2 * m * n).tdiv (mg m n) = ms m n) := Lib.hid rfl
  have HZ : Hid ((n * n + m * m).tdiv (mg m n) = mh m n) := Lib.hid rfl
  obtain ⟨X, hX⟩ : ∃ x, mc m n = x := ⟨_, rfl⟩
  obtain ⟨Y, hY⟩ : ∃ x, ms m n = x := ⟨_, rfl⟩
  obtain ⟨Z, hZ⟩ : ∃ x, mh m n = x := ⟨_, rfl⟩
  rw [hX] at HX o1 o2
  rw [hY] at HY o3 o4
  rw [hZ] at HZ o2 o3 o4 o5 o6
  rw [hX, hY, hZ] at HT
  obtain ⟨g, hg2⟩ : ∃ x, mg m n = x := ⟨_, rfl⟩
  rw [hg2] at HX HY HZ D2 gz gb hg
  obtain ⟨k, hk⟩ : ∃ k, gc (n * n - m * m) (2 * m * n) = k := ⟨_, rfl⟩
  rw [hk] at D1 D2 k0 k1
  have en : IntKind.wrap .i64 (-Y) = -Y := IntWalk.i64_in _ (by omega)
  have ex : IntKind.wrap .i64 X = X := IntWalk.i64_in _ (by omega)
  have ey : IntKind.wrap .i64 Y = Y := IntWalk.i64_in _ (by omega)
  have ez : IntKind.wrap .i64 Z = Z := IntWalk.i64_in _ (by omega)
  clear hX hY hZ ok o1 o2 o3 o4 o5 o6 hm hg2 hk k0 k1 hg p1 p2 p3 p4 p5 p6 m1 m2 m3
  go_enter Try.func76, Try.ntmps76
  go_wp2_with (first | (go_at_call 48; refine (lin_any _ _ _ _).mono ?_; rintro e w' ⟨rfl, rfl⟩) | (go_at_call 49; (with_reducible refine Calls.mono (D1.out _) ?_); rintro e w' ⟨rfl, nd1, rfl⟩) | (go_at_call 49; (with_reducible refine Calls.mono (D2.out _) ?_); rintro e w' ⟨rfl, nd2, rfl⟩))
  generalize hW : World.drewN _ _ = W
  have bR : Bk W w.heap.size #[.int .i64 0, .int .i64 0, .int .i64 0] 34 := by rw [← hW]; exact (Bk.new' rfl : Bk (w.alloc (.cells #[.int .i64 0, .int .i64 0, .int .i64 0] 34)) w.heap.size #[.int .i64 0, .int .i64 0, .int .i64 0] 34)
  have HB : Hid (Below w.heap.size w W) := Lib.hid (by rw [← hW]; exact (by repeat (first | exact Below.refl _ _ | (refine Below.alloc ?_ (by simp <;> omega) _) | (refine Below.setCell ?_ (by simp <;> omega) _) | (refine Below.drew ?_) | (refine bel_drewN ?_ _))))
  clear hW D1 D2
  have rl := bR.lt
  have r0 := bR.cell 0 rfl
  have r1 := bR.cell 1 rfl
  have r2 := bR.cell 2 rfl
  have f0 := bR.frozen 0
  have f1 := bR.frozen 1
  have f2 := bR.frozen 2
  have n1 : ¬ w.heap.size = W.heap.size := by omega
  have n2 : ¬ W.heap.size = w.heap.size := by omega
  have hx := HX.out
  have hy := HY.out
  have hz := HZ.out
  cases d
  · go_region_with (fail)
    all_goals
      go_wp2
      exact bodyPost_ret (v := .tuple #[.agg #[.int .i64 (X), .int .i64 (-Y), .int .i64 (Z)], .int .i64 0]) (by simp [results, Try.results76, go_sem, *]) rfl ⟨res4 HT.out, by repeat (first | (with_reducible exact HB.out) | (refine Below.setCell ?_ (by first | (simp; done) | (simp; omega)) _) | (refine Below.alloc ?_ (by first | omega | (simp; done) | (simp; omega)) _) | (refine Below.drew ?_))⟩
  · go_region_with (fail)
    all_goals
      go_wp2
      exact bodyPost_ret (v := .tuple #[.agg #[.int .i64 (X), .int .i64 (Y), .int .i64 (Z)], .int .i64 0]) (by simp [results, Try.results76, go_sem, *]) rfl ⟨res4 HT.out, by repeat (first | (with_reducible exact HB.out) | (refine Below.setCell ?_ (by first | (simp; done) | (simp; omega)) _) | (refine Below.alloc ?_ (by first | omega | (simp; done) | (simp; omega)) _) | (refine Below.drew ?_))⟩
end Go.Proofs.Ytkjpjhklnaehbab
