import Derived.Test.YtgecbfbmmbfnmaaGreatDir
import Derived.Deep.RegionHeld3
import Derived.Test.YtgecbfbmmbfnmaaGreatDrp
import Derived.Deep.RegionWith
import Derived.Deep.DrawnRows
import Derived.Test.YtgecbfbmmbfnmaaGreatLys
import Derived.LoopTactic
import Derived.StillTailTactics
import Derived.Handy
import Derived.Outline
import Derived.Deep.DeepCutAuto
namespace Go.Proofs.YtgecbfbmmbfnmaaGreat
section
/- Results of four numbers. Contracts of MakeDirection and MirrorDirection, the program's and the model's. Runs on the set of directions: a map of two entries, keyed by structs of three integers. Contracts of CompareDirections, the program's and the model's, and of their helpers. Contracts of CompareDirections, the program's and the model's. -/
open Go.ChangeShapes Go.WideShapes Go.ChangeAt Go.RowKit Num
set_option linter.unusedVariables false
/-- a result of four numbers, of which three are a struct -/
theorem res4 {t : Int × Int × Int × Int} {a b c d : Int} (h : t = (a, b, c, d)) : Ending.returned (.tuple #[.agg #[.int .i64 a, .int .i64 b, .int .i64 c], .int .i64 d]) = .returned (.tuple #[.agg #[.int .i64 t.1, .int .i64 t.2.1, .int .i64 t.2.2.1], .int .i64 t.2.2.2]) := by subst h; rfl
open Go.ChangeShapes Go.WideShapes Go.ChangeAt Go.RowKit Num
set_option linter.unusedVariables false

open Go.ChangeShapes Go.WideShapes Go.ChangeAt Go.RowKit Num
set_option linter.unusedVariables false
open Go.ChangeShapes Go.WideShapes Go.ChangeAt Go.RowKit Num
set_option linter.unusedVariables false
open Go.ChangeShapes Go.WideShapes Go.ChangeAt Go.RowKit Num
set_option linter.unusedVariables false
end
section
/- The contract of the program's MakeDirection. The contract of the model's MakeDirection. -/
open Go.ChangeShapes Go.WideShapes Go.ChangeAt Go.RowKit Num
set_option linter.unusedVariables false

open Go.ChangeShapes Go.WideShapes Go.ChangeAt Go.RowKit Num
set_option linter.unusedVariables false

set_option maxRecDepth 100000 in
set_option maxHeartbeats 2000000 in
theorem smd_any (m n : Int) (d : Bool) (w : World) :
    Calls Tryz.prog 59 #[.int .i64 m, .int .i64 n, .bool d] w fun e w' => e = .returned (.tuple #[.agg #[.int .i64 (mdT m n d).1, .int .i64 (mdT m n d).2.1, .int .i64 (mdT m n d).2.2.1], .int .i64 (mdT m n d).2.2.2]) ∧ Below w.heap.size w w' := by
  cases hm : mnB m n
  · have HT : Hid (mdT m n d = (0, 0, 0, 2)) := Lib.hid (by unfold mdT; rw [hm]; rfl)
    cases h1 : inB n 2 1000
    · clear hm
      go_enter Tryz.func59, Tryz.ntmps59
      go_wp2_with (go_at_call 44; refine (lin_any _ _ _ _).mono ?_; rintro e w' ⟨rfl, rfl⟩)
      exact bodyPost_ret (v := .tuple #[.agg #[.int .i64 (0), .int .i64 (0), .int .i64 (0)], .int .i64 2]) (by simp [results, Tryz.results59, go_sem]) rfl ⟨res4 HT.out, (by repeat (first | exact Below.refl _ _ | (refine Below.alloc ?_ (by simp <;> omega) _) | (refine Below.setCell ?_ (by simp <;> omega) _) | (refine Below.drew ?_) | (refine bel_drewN ?_ _)))⟩
    have b1 := inB_t h1
    have e7 : IntKind.wrap .i64 (n - 1) = n - 1 := IntWalk.i64_in _ (by omega)
    cases h2 : inB m 1 (n - 1)
    · clear hm
      go_enter Tryz.func59, Tryz.ntmps59
      go_wp2_with (go_at_call 44; refine (lin_any _ _ _ _).mono ?_; rintro e w' ⟨rfl, rfl⟩)
      exact bodyPost_ret (v := .tuple #[.agg #[.int .i64 (0), .int .i64 (0), .int .i64 (0)], .int .i64 2]) (by simp [results, Tryz.results59, go_sem]) rfl ⟨res4 HT.out, (by repeat (first | exact Below.refl _ _ | (refine Below.alloc ?_ (by simp <;> omega) _) | (refine Below.setCell ?_ (by simp <;> omega) _) | (refine Below.drew ?_) | (refine bel_drewN ?_ _)))⟩
    have b2 := inB_t h2
    have e1 : IntKind.wrap .i64 (n * n) = n * n := wr_mul (A := 1000) (B := 1000) (by omega) (by omega) (by omega) (by omega) (by omega) (by omega)
    have e2 : IntKind.wrap .i64 (m * m) = m * m := wr_mul (A := 1000) (B := 1000) (by omega) (by omega) (by omega) (by omega) (by omega) (by omega)
    have q1 := mul_abs (a := n) (n := n) (A := 1000) (N := 1000) (by omega) (by omega)
    have q2 := mul_abs (a := m) (n := m) (A := 1000) (N := 1000) (by omega) (by omega)
    have e5 : IntKind.wrap .i64 (n * n + m * m) = n * n + m * m := IntWalk.i64_in _ (by omega)
    have h4 : 1000 < n * n + m * m := by
      rcases Int.lt_or_le 1000 (n * n + m * m) with l | l
      · exact l
      · have : mnB m n = true := by
          unfold mnB
          simp only [Bool.and_eq_true, decide_eq_true_eq]
          exact ⟨⟨⟨by omega, by omega⟩, by omega⟩, l⟩
        rw [this] at hm; cases hm
    clear hm q1 q2
    go_enter Tryz.func59, Tryz.ntmps59
    go_wp2_with (go_at_call 44; refine (lin_any _ _ _ _).mono ?_; rintro e w' ⟨rfl, rfl⟩)
    exact bodyPost_ret (v := .tuple #[.agg #[.int .i64 (0), .int .i64 (0), .int .i64 (0)], .int .i64 2]) (by simp [results, Tryz.results59, go_sem]) rfl ⟨res4 HT.out, (by repeat (first | exact Below.refl _ _ | (refine Below.alloc ?_ (by simp <;> omega) _) | (refine Below.setCell ?_ (by simp <;> omega) _) | (refine Below.drew ?_) | (refine bel_drewN ?_ _)))⟩
  obtain ⟨p1, p2, p3, p4, p5, p6⟩ := mn_pos hm
  obtain ⟨m1, m2, m3, m4⟩ := mnB_t hm
  have ok := mn_ok hm
  have e1 : IntKind.wrap .i64 (n * n) = n * n := wr_mul (A := 1000) (B := 1000) (by omega) (by omega) (by omega) (by omega) (by omega) (by omega)
  have e2 : IntKind.wrap .i64 (m * m) = m * m := wr_mul (A := 1000) (B := 1000) (by omega) (by omega) (by omega) (by omega) (by omega) (by omega)
  have e3 : IntKind.wrap .i64 (2 * m) = 2 * m := IntWalk.i64_in _ (by omega)
  have e4 : IntKind.wrap .i64 (2 * m * n) = 2 * m * n := IntWalk.i64_in _ (by omega)
  have e5 : IntKind.wrap .i64 (n * n + m * m) = n * n + m * m := IntWalk.i64_in _ (by omega)
  have e6 : IntKind.wrap .i64 (n * n - m * m) = n * n - m * m := IntWalk.i64_in _ (by omega)
  have e7 : IntKind.wrap .i64 (n - 1) = n - 1 := IntWalk.i64_in _ (by omega)
  have o1 := ok.c1
  have o2 := ok.c2
  have o3 := ok.s1
  have o4 := ok.s2
  have o5 := ok.h1
  have o6 := ok.h2
  have HT : Hid (mdT m n d = (mc m n, if d then ms m n else -(ms m n), mh m n, 0)) := Lib.hid (by unfold mdT; rw [hm]; rfl)
  have h1 : inB n 2 1000 = true := inB_mk (by omega) (by omega)
  have h2 : inB m 1 (n - 1) = true := inB_mk (by omega) (by omega)
  have hg : 0 < mg m n := g3_pos (by omega)
  have gz : ¬ mg m n = 0 := by omega
  have gb : (mg m n == 0) = false := by simp; omega
  have k0 : 0 ≤ gc (n * n - m * m) (2 * m * n) := Int.natCast_nonneg _
  have k1 : gc (n * n - m * m) (2 * m * n) ≤ 1000 := by have := gc_le (a := n * n - m * m) (b := 2 * m * n) (by omega); omega
  have D1 : Hid (∀ w : World, Calls Tryz.prog 65 #[.int .i64 (n * n - m * m), .int .i64 (2 * m * n)] w fun e w' => e = .returned (.int .i64 (gc (n * n - m * m) (2 * m * n))) ∧ ∃ n, w' = w.drewN n) := Lib.hid (fun w => ldv_any _ _ (by omega) (by omega) (by omega) (by omega) w)
  have D2 : Hid (∀ w : World, Calls Tryz.prog 65 #[.int .i64 (gc (n * n - m * m) (2 * m * n)), .int .i64 (n * n + m * m)] w fun e w' => e = .returned (.int .i64 (mg m n)) ∧ ∃ n, w' = w.drewN n) := Lib.hid (fun w => ldv_any _ _ (by omega) (by omega) (by omega) (by omega) w)
  have HX : Hid ((n * n - m * m).tdiv (mg m n) = mc m n) := Lib.hid rfl
  have HY : Hid ((2 * m * n).tdiv (mg m n) = ms m n) := Lib.hid rfl
  have HZ : Hid ((n * n + m * m).tdiv (mg m n) = mh m n) := Lib.hid rfl
  obtain ⟨X, hX⟩ : ∃ x, mc m n = x := ⟨_, rfl⟩
  obtain ⟨Y, hY⟩ : ∃ x, ms m n = x := ⟨_, rfl⟩
  obtain ⟨Z, hZ⟩ : ∃ x, mh m n = x := ⟨_, rfl⟩
  rw [hX] at HX o1 o2
  rw [hY] at HY o3 o4
  rw [hZ] at HZ o2 o3 o4 o5 o6
  rw [hX, hY, hZ] at HT
  obtain ⟨g, hg2⟩ : ∃ x, mg m n = x := ⟨_, rfl⟩
  rw [hg2] at HX HY HZ D2 gz gb hg
  obtain ⟨k, hk⟩ : ∃ k, gc (n * n - m * m) (2 * m * n) = k := ⟨_, rfl⟩
  rw [hk] at D1 D2 k0 k1
  have en : IntKind.wrap .i64 (-Y) = -Y := IntWalk.i64_in _ (by omega)
  have ex : IntKind.wrap .i64 X = X := IntWalk.i64_in _ (by omega)
  have ey : IntKind.wrap .i64 Y = Y := IntWalk.i64_in _ (by omega)
  have ez : IntKind.wrap .i64 Z = Z := IntWalk.i64_in _ (by omega)
  clear hX hY hZ ok o1 o2 o3 o4 o5 o6 hm hg2 hk k0 k1 hg p1 p2 p3 p4 p5 p6 m1 m2 m3
  go_enter Tryz.func59, Tryz.ntmps59
  go_wp2_with (first | (go_at_call 44; refine (lin_any _ _ _ _).mono ?_; rintro e w' ⟨rfl, rfl⟩) | (go_at_call 65; (with_reducible refine Calls.mono (D1.out _) ?_); rintro e w' ⟨rfl, nd1, rfl⟩) | (go_at_call 65; (with_reducible refine Calls.mono (D2.out _) ?_); rintro e w' ⟨rfl, nd2, rfl⟩))
  generalize hW : World.drewN _ _ = W
  have bR : Bk W w.heap.size #[.int .i64 0, .int .i64 0, .int .i64 0] 28 := by rw [← hW]; exact (Bk.new' rfl : Bk (w.alloc (.cells #[.int .i64 0, .int .i64 0, .int .i64 0] 28)) w.heap.size #[.int .i64 0, .int .i64 0, .int .i64 0] 28)
  have HB : Hid (Below w.heap.size w W) := Lib.hid (by rw [← hW]; exact (by repeat (first | exact Below.refl _ _ | (refine Below.alloc ?_ (by simp <;> omega) _) | (refine Below.setCell ?_ (by simp <;> omega) _) | (refine Below.drew ?_) | (refine bel_drewN ?_ _))))
  clear hW D1 D2
  have rl := bR.lt
  have r0 := bR.cell 0 rfl
  have r1 := bR.cell 1 rfl
  have r2 := bR.cell 2 rfl
  have f0 := bR.frozen 0
  have f1 := bR.frozen 1
  have f2 := bR.frozen 2
  have n1 : ¬ w.heap.size = W.heap.size := by omega
  have n2 : ¬ W.heap.size = w.heap.size := by omega
  have hx := HX.out
  have hy := HY.out
  have hz := HZ.out
  cases d
  · go_region_with (fail)
    all_goals
      go_wp2
      exact bodyPost_ret (v := .tuple #[.agg #[.int .i64 (X), .int .i64 (-Y), .int .i64 (Z)], .int .i64 0]) (by simp [results, Tryz.results59, go_sem, *]) rfl ⟨res4 HT.out, by repeat (first | (with_reducible exact HB.out) | (refine Below.setCell ?_ (by first | (simp; done) | (simp; omega)) _) | (refine Below.alloc ?_ (by first | omega | (simp; done) | (simp; omega)) _) | (refine Below.drew ?_))⟩
  · go_region_with (fail)
    all_goals
      go_wp2
      exact bodyPost_ret (v := .tuple #[.agg #[.int .i64 (X), .int .i64 (Y), .int .i64 (Z)], .int .i64 0]) (by simp [results, Tryz.results59, go_sem, *]) rfl ⟨res4 HT.out, by repeat (first | (with_reducible exact HB.out) | (refine Below.setCell ?_ (by first | (simp; done) | (simp; omega)) _) | (refine Below.alloc ?_ (by first | omega | (simp; done) | (simp; omega)) _) | (refine Below.drew ?_))⟩
end
section
/- The model's draws of directions. The model's draws of arguments of functions of directions, out of a code. The model's draws of a ray, alone and with a knot. -/
open Go.ChangeShapes Go.WideShapes Go.ChangeAt Go.RowKit Go.Shelf Num
set_option linter.unusedVariables false
/-- a number of three is picked -/
theorem pick3c (w : World) (s b cap : Nat) (z0 z1 z2 : Int) (h : Src w s) (hb : ¬ b = s) (hk : w.heap[b]? = some (.cells #[.int .i64 z0, .int .i64 z1, .int .i64 z2] 2 (0, 0))) :
    Calls Tryz.prog 32 #[.pointer (some ⟨s, 0, none⟩), .slice (some ⟨b, 0, none⟩) 3 cap] w fun e w' => ∃ x : Int, e = .returned (.int .i64 x) ∧ (x = z0 ∨ x = z1 ∨ x = z2) ∧ Src w' s ∧ w.grownBy w' (some s) :=
  (pick_n w s b cap 3 [z0, z1, z2] h rfl hb (by decide) (by decide) (fun j hj => (cell_of_row w b j _ _ _ hk).trans (match j, hj with
    | 0, _ => rfl
    | 1, _ => rfl
    | 2, _ => rfl)) (by obtain ⟨hlt, _⟩ := Array.getElem?_eq_some_iff.1 hk; exact hlt)).mono fun e w' ⟨j, hj, he, hs, hg⟩ => ⟨_, he, by
      match j, hj with
      | 0, _ => exact Or.inl rfl
      | 1, _ => exact Or.inr (Or.inl rfl)
      | 2, _ => exact Or.inr (Or.inr rfl), hs, hg⟩
/-- what a draw of a direction leaves -/
def DirDrawn (w : World) (s : Nat) (e : Ending) (w' : World) : Prop := ∃ x y z : Int, e = .returned (.agg #[.int .i64 x, .int .i64 y, .int .i64 z]) ∧ Src w' s ∧ w.grownBy w' (some s)
theorem three_set {w w' : World} {s g : Nat} {a b c : Value} (h : w.grownBy w' (some s)) (hg : w.heap.size ≤ g) : w.grownBy (((w'.setCell ⟨g, 0, none⟩ a).setCell ⟨g, 1, none⟩ b).setCell ⟨g, 2, none⟩ c) (some s) := grown_set_new (grown_set_new (grown_set_new h hg _) hg _) hg _
theorem src_set3 {w : World} {s g : Nat} {a b c : Value} (h : Src w s) (hg : s < g) : Src (((w.setCell ⟨g, 0, none⟩ a).setCell ⟨g, 1, none⟩ b).setCell ⟨g, 2, none⟩ c) s := ((h.set_far hg _).set_far hg _).set_far hg _

set_option maxRecDepth 100000 in
set_option maxHeartbeats 4000000 in
theorem ddi_any (w : World) (s : Nat) (h : Src w s) :
    Calls Tryz.prog 33 #[.pointer (some ⟨s, 0, none⟩)] w (DirDrawn w s) := by
  have hlt := h.lt
  have HS := Lib.hid h
  clear h
  go_enter Tryz.func33, Tryz.ntmps33
  go_wp2_with fail
  generalize hW : World.alloc _ _ = W
  have bR : Bk W w.heap.size #[.int .i64 0, .int .i64 0, .int .i64 0] 28 := by rw [← hW]; exact Bk.new' rfl
  have HG : Hid (w.grownBy W (some s)) := Lib.hid (by rw [← hW]; exact grown_alloc (grown_refl _ _) _)
  replace HS : Hid (Src W s) := Lib.hid (by rw [← hW]; exact HS.out.alloc _)
  clear hW
  refine (nxt_any _ _ _ HS.out).mono ?_
  rintro e w1 ⟨q, rfl, hq0, hq1, -, hs, hg⟩
  have hq := hq1 (by omega)
  clear hq1
  replace bR := bR.kept hg (by simp; omega)
  replace HG := Lib.hid (grown_trans HG.out hg)
  replace HS := Lib.hid hs
  have hls := HS.out.lt
  clear hs hg
  go_wp2_with fail
  refine (pick3c _ _ w1.heap.size _ _ _ _ (HS.out.alloc _) (by omega) (heap_alloc_new w1 _)).mono ?_
  rintro e w2 ⟨x, rfl, hx, hs, hg⟩
  have hx20 : x ≤ 21 := by omega
  replace bR := (bR.alloc _).kept hg (by simp; omega)
  replace HG := Lib.hid (grown_trans (grown_alloc HG.out _) hg)
  replace HS := Lib.hid hs
  have hls := HS.out.lt
  clear hs hg
  go_wp2_with fail
  refine (nxt_any _ _ _ HS.out).mono ?_
  rintro e w3 ⟨m, rfl, hm0, hm1, hm2, hs, hg⟩
  have hm : m ≤ 21 := by
    by_cases h1 : 1 < x
    · have := hm1 h1; omega
    · have := hm2 (by omega); omega
  clear hm1 hm2 hx hx20
  replace bR := bR.kept hg (by simp; omega)
  replace HG := Lib.hid (grown_trans HG.out hg)
  replace HS := Lib.hid hs
  have hls := HS.out.lt
  clear hs hg
  go_wp2_with fail
  all_goals
    refine (nxt_any _ _ _ HS.out).mono ?_
    rintro e w4 ⟨t, rfl, ht0, ht1, -, hs, hg⟩
    clear ht1
    replace bR := bR.kept hg (by simp; omega)
    replace HG := Lib.hid (grown_trans HG.out hg)
    replace HS := Lib.hid hs
    have hls := HS.out.lt
    clear hs hg
    go_wp2_with fail
    have key : ∀ (a b : Int) (d : Bool) (wz : World), Calls Tryz.prog 59 #[.int .i64 a, .int .i64 b, .bool d] wz fun e w' => ∃ x y z c, e = .returned (.tuple #[.agg #[.int .i64 x, .int .i64 y, .int .i64 z], .int .i64 c]) ∧ Below wz.heap.size wz w' :=
      fun a b d wz => (smd_any a b d wz).mono fun e w' h => ⟨_, _, _, _, h.1, h.2⟩
    refine (key _ _ _ _).mono ?_
    rintro e w5 ⟨X, Y, V, c, rfl, hb⟩
    replace bR := bR.on hb
    replace HG := Lib.hid (grown_bel HG.out hb)
    replace HS := Lib.hid (HS.out.bel hb)
    clear hb key
    go_wp2_with fail
    generalize hW : World.alloc _ _ = W6
    have hb : Below w5.heap.size w5 W6 := by rw [← hW]; exact (by repeat (first | exact Below.refl _ _ | (refine Below.alloc ?_ (by simp <;> omega) _) | (refine Below.setCell ?_ (by simp <;> omega) _) | (refine Below.drew ?_) | (refine bel_drewN ?_ _)))
    have bD : Bk W6 w5.heap.size #[.int .i64 X, .int .i64 Y, .int .i64 V] 28 := by rw [← hW]; exact Bk.new' rfl
    have hR5 := bR.lt
    replace bR := bR.on hb
    replace HG := Lib.hid (grown_bel HG.out hb)
    have hs5 := HS.out.lt
    replace HS := Lib.hid (HS.out.bel hb)
    clear hW hb
    refine (nxt_any _ _ _ HS.out).mono ?_
    rintro e w7 ⟨v, rfl, hv0, hv1, -, hs, hg⟩
    have hv := hv1 (by omega)
    clear hv1
    replace bR := bR.kept hg (by simp; omega)
    replace bD := bD.kept hg (by simp; omega)
    replace HG := Lib.hid (grown_trans HG.out hg)
    replace HS := Lib.hid hs
    have hls := HS.out.lt
    clear hs hg
    have r0 := bR.cell 0 rfl
    have rf0 := bR.frozen 0
    have r1 := bR.cell 1 rfl
    have rf1 := bR.frozen 1
    have r2 := bR.cell 2 rfl
    have rf2 := bR.frozen 2
    have rl := bR.lt
    have d0 := bD.cell 0 rfl
    have df0 := bD.frozen 0
    have d1 := bD.cell 1 rfl
    have df1 := bD.frozen 1
    have d2 := bD.cell 2 rfl
    have df2 := bD.frozen 2
    have dl := bD.lt
    have n1 : ¬ w.heap.size = w5.heap.size := by omega
    have n2 : ¬ w5.heap.size = w.heap.size := by omega
    by_cases v0 : v = 0
    · subst v0
      go_wp2
      exact bodyPost_ret (v := .agg #[.int .i64 (wrap64 (2 * X)), .int .i64 (wrap64 (2 * Y)), .int .i64 (wrap64 (2 * V))]) (by simp [results, Tryz.results33, go_sem, *]) rfl ⟨_, _, _, rfl, src_set3 HS.out hlt, three_set HG.out (Nat.le_refl _)⟩
    · have b0 : (v == 0) = false := by simpa using v0
      by_cases v1 : v = 1
      · subst v1
        go_wp2
        exact bodyPost_ret (v := .agg #[.int .i64 X, .int .i64 (wrap64 (Y + 1)), .int .i64 V]) (by simp [results, Tryz.results33, go_sem, *]) rfl ⟨_, _, _, rfl, src_set3 (HS.out.set_far (p := ⟨w5.heap.size, 1, none⟩) (by simp; omega) _) hlt, three_set (grown_set_new (p := ⟨w5.heap.size, 1, none⟩) HG.out (Nat.le_of_lt hR5) _) (Nat.le_refl _)⟩
      · have b1 : (v == 1) = false := by simpa using v1
        by_cases v2 : v = 2
        · subst v2
          go_wp2
          exact bodyPost_ret (v := .agg #[.int .i64 1, .int .i64 0, .int .i64 1]) (by simp [results, Tryz.results33, go_sem, *]) rfl ⟨_, _, _, rfl, src_set3 HS.out hlt, three_set HG.out (Nat.le_refl _)⟩
        · have b2 : (v == 2) = false := by simpa using v2
          go_wp2
          exact bodyPost_ret (v := .agg #[.int .i64 X, .int .i64 Y, .int .i64 V]) (by simp [results, Tryz.results33, go_sem, *]) rfl ⟨_, _, _, rfl, src_set3 HS.out hlt, three_set HG.out (Nat.le_refl _)⟩
open Go.ChangeShapes Go.WideShapes Go.ChangeAt Go.RowKit Go.Shelf Num
set_option linter.unusedVariables false
open Go.ChangeShapes Go.WideShapes Go.ChangeAt Go.RowKit Go.Shelf Num
set_option linter.unusedVariables false
attribute [local go_sem ↓] Go.wp_at_zero Go.wp_at_succ
theorem PrA.n {w : World} {m c d : Nat} {a b : Option Addr} {zs ys : List Int} (h : PrA w m a b c d zs ys) : PrN w a b zs ys := ⟨h.at_, h.n1, h.n2⟩
end
section
/- Rows of directions of one's own: kept over calls, compared, marked, read again. -/
open Go.ChangeShapes Go.WideShapes Go.ChangeAt Go.RowKit Go.Shelf Num
set_option linter.unusedVariables false
end
section
/- Contracts of fans: IsFan, LiesBetween, the program's and the model's. -/
open Go.ChangeShapes Go.WideShapes Go.ChangeAt Go.RowKit Go.Shelf Num
set_option linter.unusedVariables false
set_option linter.unusedSimpArgs false

set_option maxRecDepth 100000 in
set_option maxHeartbeats 2000000 in
theorem alk_any (c s h x y z : Int) (w : World) :
    Calls Tryz.prog 45 #[.agg #[.int .i64 c, .int .i64 s, .int .i64 h], .agg #[.int .i64 x, .int .i64 y, .int .i64 z]] w fun e w' => e = .returned (.bool (decide (0 < s) == decide (0 < y))) ∧ Below w.heap.size w w' := by
  by_cases g : 0 < s <;> by_cases g2 : 0 < y
  all_goals
    first | rw [decide_eq_true g] | rw [decide_eq_false g]
    first | rw [decide_eq_true g2] | rw [decide_eq_false g2]
    go_enter Tryz.func45, Tryz.ntmps45
    go_wp2
    go_ret
    exact ⟨rfl, (by repeat (first | exact Below.refl _ _ | (refine Below.alloc ?_ (by simp <;> omega) _) | (refine Below.setCell ?_ (by simp <;> omega) _) | (refine Below.drew ?_) | (refine bel_drewN ?_ _)))⟩
end
section
/- The model's draws of fans and of cells. -/
open Go.ChangeShapes Go.WideShapes Go.ChangeAt Go.RowKit Go.Shelf Num
set_option linter.unusedVariables false
set_option linter.unusedSimpArgs false

def CellDrawn (w : World) (s : Nat) (e : Ending) (w' : World) : Prop := ∃ x y z u v t : Int, e = .returned (.tuple #[.agg #[.int .i64 x, .int .i64 y, .int .i64 z], .agg #[.int .i64 u, .int .i64 v, .int .i64 t]]) ∧ Src w' s ∧ w.grownBy w' (some s)

set_option maxRecDepth 100000 in
set_option maxHeartbeats 8000000 in
theorem d8c_any (w : World) (s : Nat) (h : Src w s) :
    Calls Tryz.prog 30 #[.pointer (some ⟨s, 0, none⟩)] w (CellDrawn w s) := by
  have hls0 := h.lt
  have HS := Lib.hid h
  clear h
  go_enter Tryz.func30, Tryz.ntmps30
  go_wp2_with fail
  generalize hW : World.alloc _ _ = W
  have bR0 : Bk W w.heap.size #[.int .i64 0, .int .i64 0, .int .i64 0] 28 := by rw [← hW]; repeat (first | (refine Bk.new' ?_; (simp; done)) | refine Bk.alloc ?_ _)
  have bR1 : Bk W (w.heap.size + 1) #[.int .i64 0, .int .i64 0, .int .i64 0] 28 := by rw [← hW]; repeat (first | (refine Bk.new' ?_; (simp; done)) | refine Bk.alloc ?_ _)
  have HG : Hid (w.grownBy W (some s)) := Lib.hid (by rw [← hW]; exact grown_alloc (grown_alloc (grown_refl _ _) _) _)
  replace HS : Hid (Src W s) := Lib.hid (by rw [← hW]; exact (HS.out.alloc _).alloc _)
  have hls := HS.out.lt
  clear hW
  refine (nxt_any _ _ _ HS.out).mono ?_
  rintro e w1 ⟨a, rfl, ah0, ah1, -, hs, hg⟩
  have ah2 := ah1 (by omega)
  clear ah1
  replace bR0 := bR0.kept hg (by simp; omega)
  replace bR1 := bR1.kept hg (by simp; omega)
  replace HG := Lib.hid (grown_trans HG.out hg)
  replace HS := Lib.hid hs
  have hls := HS.out.lt
  clear hs hg
  go_wp2_with fail
  refine (nxt_any _ _ _ HS.out).mono ?_
  rintro e w2 ⟨m, rfl, mh0, mh1, -, hs, hg⟩
  have mh2 := mh1 (by omega)
  clear mh1
  replace bR0 := bR0.kept hg (by simp; omega)
  replace bR1 := bR1.kept hg (by simp; omega)
  replace HG := Lib.hid (grown_trans HG.out hg)
  replace HS := Lib.hid hs
  have hls := HS.out.lt
  clear hs hg
  go_wp2_with fail
  refine (nxt_any _ _ _ HS.out).mono ?_
  rintro e w3 ⟨d, rfl, dh0, dh1, -, hs, hg⟩
  have dh2 := dh1 (by omega)
  clear dh1
  replace bR0 := bR0.kept hg (by simp; omega)
  replace bR1 := bR1.kept hg (by simp; omega)
  replace HG := Lib.hid (grown_trans HG.out hg)
  replace HS := Lib.hid hs
  have hls := HS.out.lt
  clear hs hg
  have key : ∀ (a b : Int) (d : Bool) (wz : World), Calls Tryz.prog 59 #[.int .i64 a, .int .i64 b, .bool d] wz fun e w' => ∃ x y z c, e = .returned (.tuple #[.agg #[.int .i64 x, .int .i64 y, .int .i64 z], .int .i64 c]) ∧ Below wz.heap.size wz w' := fun a b d wz => (smd_any a b d wz).mono fun e w' h => ⟨_, _, _, _, h.1, h.2⟩
  have KEY := Lib.hid key
  clear key
  go_wp2_with fail
  refine (KEY.out _ _ _ _).mono ?_
  rintro e w4 ⟨x1, y1, z1, _, rfl, hb⟩
  replace bR0 := bR0.on hb
  replace bR1 := bR1.on hb
  replace HG := Lib.hid (grown_bel HG.out hb)
  replace HS := Lib.hid (HS.out.bel hb)
  replace hls := HS.out.lt
  clear hb
  go_wp2_with fail
  obtain ⟨W5, hW⟩ : ∃ W, W = w4.alloc (.cells #[.int .i64 x1, .int .i64 y1, .int .i64 z1] 28) := ⟨_, rfl⟩
  rw [← hW]
  have bD : Bk W5 w4.heap.size #[.int .i64 x1, .int .i64 y1, .int .i64 z1] 28 := by rw [hW]; exact Bk.new' rfl
  have hb : Below w4.heap.size w4 W5 := by rw [hW]; exact (Below.refl _ _).alloc (Nat.le_refl _) _
  have hl_bR0 := bR0.lt
  have hl_bR1 := bR1.lt
  replace bR0 := bR0.on hb
  replace bR1 := bR1.on hb
  replace HG := Lib.hid (grown_bel HG.out hb)
  replace HS := Lib.hid (HS.out.bel hb)
  replace hls := HS.out.lt
  clear hW hb
  refine (nxt_any _ _ _ HS.out).mono ?_
  rintro e w6 ⟨c, rfl, ch0, ch1, -, hs, hg⟩
  have ch2 := ch1 (by omega)
  clear ch1
  replace bR0 := bR0.kept hg (by simp; omega)
  replace bR1 := bR1.kept hg (by simp; omega)
  replace bD := bD.kept hg (by simp; omega)
  replace HG := Lib.hid (grown_trans HG.out hg)
  replace HS := Lib.hid hs
  have hls := HS.out.lt
  clear hs hg
  go_wp2_with fail
  all_goals
    refine (nxt_any _ _ _ HS.out).mono ?_
    rintro e w7 ⟨g, rfl, gh0, gh1, -, hs, hg⟩
    have gh2 := gh1 (by omega)
    clear gh1
    replace bR0 := bR0.kept hg (by simp; omega)
    replace bR1 := bR1.kept hg (by simp; omega)
    replace bD := bD.kept hg (by simp; omega)
    replace HG := Lib.hid (grown_trans HG.out hg)
    replace HS := Lib.hid hs
    have hls := HS.out.lt
    clear hs hg
    go_wp2_with fail
    refine (KEY.out _ _ _ _).mono ?_
    rintro e w8 ⟨x2, y2, z2, _, rfl, hb⟩
    replace bR0 := bR0.on hb
    replace bR1 := bR1.on hb
    replace bD := bD.on hb
    replace HG := Lib.hid (grown_bel HG.out hb)
    replace HS := Lib.hid (HS.out.bel hb)
    replace hls := HS.out.lt
    clear hb
    go_wp2_with fail
    obtain ⟨W9, hW⟩ : ∃ W, W = w8.alloc (.cells #[.int .i64 x2, .int .i64 y2, .int .i64 z2] 28) := ⟨_, rfl⟩
    rw [← hW]
    have bE : Bk W9 w8.heap.size #[.int .i64 x2, .int .i64 y2, .int .i64 z2] 28 := by rw [hW]; exact Bk.new' rfl
    have hb : Below w8.heap.size w8 W9 := by rw [hW]; exact (Below.refl _ _).alloc (Nat.le_refl _) _
    have hl_bR0 := bR0.lt
    have hl_bR1 := bR1.lt
    have hl_bD := bD.lt
    replace bR0 := bR0.on hb
    replace bR1 := bR1.on hb
    replace bD := bD.on hb
    replace HG := Lib.hid (grown_bel HG.out hb)
    replace HS := Lib.hid (HS.out.bel hb)
    replace hls := HS.out.lt
    clear hW hb
    refine (nxt_any _ _ _ HS.out).mono ?_
    rintro e w10 ⟨p, rfl, ph0, ph1, -, hs, hg⟩
    have ph2 := ph1 (by omega)
    clear ph1
    replace bR0 := bR0.kept hg (by simp; omega)
    replace bR1 := bR1.kept hg (by simp; omega)
    replace bD := bD.kept hg (by simp; omega)
    replace bE := bE.kept hg (by simp; omega)
    replace HG := Lib.hid (grown_trans HG.out hg)
    replace HS := Lib.hid hs
    have hls := HS.out.lt
    clear hs hg
    by_cases p0 : p = 0
    · subst p0
      go_upto_region 7 with fail
      have HW : Hid (Below w10.heap.size w10 w10) := Lib.hid (Below.refl _ _)
      obtain ⟨S, hSd⟩ : ∃ S : World → Prop, ∀ w', S w' ↔ (w'.cell? ⟨w4.heap.size, 0, none⟩ = some (.int .i64 x1) ∧ w'.cell? ⟨w4.heap.size, 1, none⟩ = some (.int .i64 y1) ∧ w'.cell? ⟨w4.heap.size, 2, none⟩ = some (.int .i64 z1) ∧ w'.cell? ⟨w8.heap.size, 0, none⟩ = some (.int .i64 x2) ∧ w'.cell? ⟨w8.heap.size, 1, none⟩ = some (.int .i64 y2) ∧ w'.cell? ⟨w8.heap.size, 2, none⟩ = some (.int .i64 z2)) := ⟨_, fun _ => Iff.rfl⟩
      have HSp : Hid (∀ w' : World, Bk w' (w4.heap.size) #[.int .i64 x1, .int .i64 y1, .int .i64 z1] 28 → Bk w' (w8.heap.size) #[.int .i64 x2, .int .i64 y2, .int .i64 z2] 28 → S w') := Lib.hid (fun w' bD bE => (hSd w').2 ⟨bD.cell 0 rfl, bD.cell 1 rfl, bD.cell 2 rfl, bE.cell 0 rfl, bE.cell 1 rfl, bE.cell 2 rfl⟩)
      have HSd := Lib.hid hSd
      clear hSd
      refine wp_region_held_drew (S := S) (by kernel_rfl) ?_ (fun hH => ?_)
      · exact (HSp.out _ bD bE : S (World.drew w10))
      clear hH
      generalize hX : World.drew w10 = V0
      replace bR0 : Bk V0 (w.heap.size) #[.int .i64 0, .int .i64 0, .int .i64 0] 28 := by rw [← hX]; exact bR0
      replace bR1 : Bk V0 (w.heap.size + 1) #[.int .i64 0, .int .i64 0, .int .i64 0] 28 := by rw [← hX]; exact bR1
      replace bD : Bk V0 (w4.heap.size) #[.int .i64 x1, .int .i64 y1, .int .i64 z1] 28 := by rw [← hX]; exact bD
      replace bE : Bk V0 (w8.heap.size) #[.int .i64 x2, .int .i64 y2, .int .i64 z2] 28 := by rw [← hX]; exact bE
      have hb : Below w10.heap.size w10 V0 := by rw [← hX]; exact (Below.refl _ _).drew
      clear hX
      replace HG := Lib.hid (grown_bel HG.out hb)
      replace HS := Lib.hid (HS.out.bel hb)
      replace HW := Lib.hid (bel_end HW.out hb)
      clear hb
      have hS := HSp.out _ bD bE
      refine wpAnyH_take (i := 0) (oi := { dst := some 47, op := Go.Op.load 28 (Go.Operand.tmp 9), type := 28, pos := "l08_sectors.go:244", after := #[], guard := none }) (v := ?_) rfl (by kernel_rfl) (by kernel_rfl) (by kernel_rfl) (fun _ _ _ h => h) (Or.inl ⟨by rfl, ?_⟩) hS ?_
      rotate_left
      · (intro w hSw; have hSw := (HSd.out w).1 hSw; go_split_ands; go_simp) <;> with_reducible rfl
      clear hS
      try simp only [Act.put, List.setIfInBounds_toArray, List.set_cons_zero, List.set_cons_succ]
      have hS := HSp.out _ bD bE
      refine wpAnyH_take (i := 1) (oi := { dst := some 48, op := Go.Op.load 28 (Go.Operand.tmp 7), type := 28, pos := "l08_sectors.go:244", after := #[{ on := 2, ground := Go.Ground.gcOnly Go.Departure.lateStores }], guard := none }) (v := ?_) rfl (by kernel_rfl) (by kernel_rfl) (by kernel_rfl) (fun _ _ _ h => h) (Or.inl ⟨by rfl, ?_⟩) hS ?_
      rotate_left
      · (intro w hSw; have hSw := (HSd.out w).1 hSw; go_split_ands; go_simp) <;> with_reducible rfl
      clear hS
      try simp only [Act.put, List.setIfInBounds_toArray, List.set_cons_zero, List.set_cons_succ]
      refine wpAnyH_ready (rs := [2]) (by kernel_rfl) (by simp) ?_
      refine AllReadyH.cons (o := { dst := none, op := Go.Op.store 28 (Go.Operand.tmp 2) (Go.Operand.tmp 47), type := 0, pos := "l08_sectors.go:244", after := #[{ on := 0, ground := Go.Ground.data }, { on := 0, ground := Go.Ground.phase }, { on := 1, ground := Go.Ground.textOnly Go.Departure.lateStores }], guard := none }) rfl (fun Kn hK => ?_) AllReadyH.nil
      have bR0_0 := bR0.cell 0 rfl
      have bR0_1 := bR0.cell 1 rfl
      have bR0_2 := bR0.cell 2 rfl
      have bR0_f0 := bR0.frozen 0
      have bR0_f1 := bR0.frozen 1
      have bR0_f2 := bR0.frozen 2
      have bR0_l := bR0.lt
      go_simp
      clear bR0_0 bR0_f0 bR0_1 bR0_f1 bR0_2 bR0_f2 bR0_l
      generalize hX : World.setCell _ _ _ = V1
      replace HG : Hid (w.grownBy V1 (some s)) := Lib.hid (by rw [← hX]; exact three_set HG.out (by first | omega | (dsimp only; omega)))
      replace HS : Hid (Src V1 s) := Lib.hid (by rw [← hX]; exact src_set3 HS.out (by first | omega | (dsimp only; omega)))
      replace bR1 : Bk V1 (w.heap.size + 1) #[.int .i64 0, .int .i64 0, .int .i64 0] 28 := by rw [← hX]; exact (Bk.other (Bk.other (Bk.other bR1 (by omega) 0 _) (by omega) 1 _) (by omega) 2 _)
      replace bD : Bk V1 (w4.heap.size) #[.int .i64 x1, .int .i64 y1, .int .i64 z1] 28 := by rw [← hX]; exact (Bk.other (Bk.other (Bk.other bD (by omega) 0 _) (by omega) 1 _) (by omega) 2 _)
      replace bE : Bk V1 (w8.heap.size) #[.int .i64 x2, .int .i64 y2, .int .i64 z2] 28 := by rw [← hX]; exact (Bk.other (Bk.other (Bk.other bE (by omega) 0 _) (by omega) 1 _) (by omega) 2 _)
      replace bR0 : Bk V1 (w.heap.size) #[.int .i64 x2, .int .i64 y2, .int .i64 z2] 28 := by rw [← hX]; exact (Bk.set (Bk.set (Bk.set bR0 0 _ rfl) 1 _ rfl) 2 _ rfl)
      clear hX
      refine hK.out _ _ (HSp.out _ bD bE) (fun _ => ?_)
      clear hK Kn
      refine wpAnyH_ready (rs := [3]) (by kernel_rfl) (by simp) ?_
      refine AllReadyH.cons (o := { dst := none, op := Go.Op.store 28 (Go.Operand.tmp 3) (Go.Operand.tmp 48), type := 0, pos := "l08_sectors.go:244", after := #[{ on := 1, ground := Go.Ground.data }, { on := 2, ground := Go.Ground.chain }, { on := 0, ground := Go.Ground.phase }, { on := 1, ground := Go.Ground.phase }, { on := 2, ground := Go.Ground.phase }], guard := none }) rfl (fun Kn hK => ?_) AllReadyH.nil
      have bR1_0 := bR1.cell 0 rfl
      have bR1_1 := bR1.cell 1 rfl
      have bR1_2 := bR1.cell 2 rfl
      have bR1_f0 := bR1.frozen 0
      have bR1_f1 := bR1.frozen 1
      have bR1_f2 := bR1.frozen 2
      have bR1_l := bR1.lt
      go_simp
      clear bR1_0 bR1_f0 bR1_1 bR1_f1 bR1_2 bR1_f2 bR1_l
      generalize hX : World.setCell _ _ _ = V2
      replace HG : Hid (w.grownBy V2 (some s)) := Lib.hid (by rw [← hX]; exact three_set HG.out (by first | omega | (dsimp only; omega)))
      replace HS : Hid (Src V2 s) := Lib.hid (by rw [← hX]; exact src_set3 HS.out (by first | omega | (dsimp only; omega)))
      replace bR0 : Bk V2 (w.heap.size) #[.int .i64 x2, .int .i64 y2, .int .i64 z2] 28 := by rw [← hX]; exact (Bk.other (Bk.other (Bk.other bR0 (by omega) 0 _) (by omega) 1 _) (by omega) 2 _)
      replace bD : Bk V2 (w4.heap.size) #[.int .i64 x1, .int .i64 y1, .int .i64 z1] 28 := by rw [← hX]; exact (Bk.other (Bk.other (Bk.other bD (by omega) 0 _) (by omega) 1 _) (by omega) 2 _)
      replace bE : Bk V2 (w8.heap.size) #[.int .i64 x2, .int .i64 y2, .int .i64 z2] 28 := by rw [← hX]; exact (Bk.other (Bk.other (Bk.other bE (by omega) 0 _) (by omega) 1 _) (by omega) 2 _)
      replace bR1 : Bk V2 (w.heap.size + 1) #[.int .i64 x1, .int .i64 y1, .int .i64 z1] 28 := by rw [← hX]; exact (Bk.set (Bk.set (Bk.set bR1 0 _ rfl) 1 _ rfl) 2 _ rfl)
      clear hX
      refine hK.out _ _ (HSp.out _ bD bE) (fun _ => ?_)
      clear hK Kn
      refine wpAnyH_done (by kernel_rfl) ?_ _
      have r0 := bR0.cell 0 rfl
      have r1 := bR0.cell 1 rfl
      have r2 := bR0.cell 2 rfl
      have p0 := bR1.cell 0 rfl
      have p1 := bR1.cell 1 rfl
      have p2 := bR1.cell 2 rfl
      go_wp2
      exact bodyPost_ret (v := .tuple #[.agg #[.int .i64 x2, .int .i64 y2, .int .i64 z2], .agg #[.int .i64 x1, .int .i64 y1, .int .i64 z1]]) (by simp [results, Tryz.results30, go_sem, r0, r1, r2, p0, p1, p2]) rfl ⟨_, _, _, _, _, _, rfl, HS.out, HG.out⟩
    · have b0 : (p == 0) = false := by simpa using p0
      go_upto_region 8 with fail
      have HW : Hid (Below w10.heap.size w10 w10) := Lib.hid (Below.refl _ _)
      obtain ⟨S, hSd⟩ : ∃ S : World → Prop, ∀ w', S w' ↔ (w'.cell? ⟨w4.heap.size, 0, none⟩ = some (.int .i64 x1) ∧ w'.cell? ⟨w4.heap.size, 1, none⟩ = some (.int .i64 y1) ∧ w'.cell? ⟨w4.heap.size, 2, none⟩ = some (.int .i64 z1) ∧ w'.cell? ⟨w8.heap.size, 0, none⟩ = some (.int .i64 x2) ∧ w'.cell? ⟨w8.heap.size, 1, none⟩ = some (.int .i64 y2) ∧ w'.cell? ⟨w8.heap.size, 2, none⟩ = some (.int .i64 z2)) := ⟨_, fun _ => Iff.rfl⟩
      have HSp : Hid (∀ w' : World, Bk w' (w4.heap.size) #[.int .i64 x1, .int .i64 y1, .int .i64 z1] 28 → Bk w' (w8.heap.size) #[.int .i64 x2, .int .i64 y2, .int .i64 z2] 28 → S w') := Lib.hid (fun w' bD bE => (hSd w').2 ⟨bD.cell 0 rfl, bD.cell 1 rfl, bD.cell 2 rfl, bE.cell 0 rfl, bE.cell 1 rfl, bE.cell 2 rfl⟩)
      have HSd := Lib.hid hSd
      clear hSd
      refine wp_region_held_drew (S := S) (by kernel_rfl) ?_ (fun hH => ?_)
      · exact (HSp.out _ bD bE : S (World.drew w10))
      clear hH
      generalize hX : World.drew w10 = V0
      replace bR0 : Bk V0 (w.heap.size) #[.int .i64 0, .int .i64 0, .int .i64 0] 28 := by rw [← hX]; exact bR0
      replace bR1 : Bk V0 (w.heap.size + 1) #[.int .i64 0, .int .i64 0, .int .i64 0] 28 := by rw [← hX]; exact bR1
      replace bD : Bk V0 (w4.heap.size) #[.int .i64 x1, .int .i64 y1, .int .i64 z1] 28 := by rw [← hX]; exact bD
      replace bE : Bk V0 (w8.heap.size) #[.int .i64 x2, .int .i64 y2, .int .i64 z2] 28 := by rw [← hX]; exact bE
      have hb : Below w10.heap.size w10 V0 := by rw [← hX]; exact (Below.refl _ _).drew
      clear hX
      replace HG := Lib.hid (grown_bel HG.out hb)
      replace HS := Lib.hid (HS.out.bel hb)
      replace HW := Lib.hid (bel_end HW.out hb)
      clear hb
      have hS := HSp.out _ bD bE
      refine wpAnyH_take (i := 0) (oi := { dst := some 49, op := Go.Op.load 28 (Go.Operand.tmp 7), type := 28, pos := "l08_sectors.go:246", after := #[], guard := none }) (v := ?_) rfl (by kernel_rfl) (by kernel_rfl) (by kernel_rfl) (fun _ _ _ h => h) (Or.inl ⟨by rfl, ?_⟩) hS ?_
      rotate_left
      · (intro w hSw; have hSw := (HSd.out w).1 hSw; go_split_ands; go_simp) <;> with_reducible rfl
      clear hS
      try simp only [Act.put, List.setIfInBounds_toArray, List.set_cons_zero, List.set_cons_succ]
      have hS := HSp.out _ bD bE
      refine wpAnyH_take (i := 1) (oi := { dst := some 50, op := Go.Op.load 28 (Go.Operand.tmp 9), type := 28, pos := "l08_sectors.go:246", after := #[{ on := 2, ground := Go.Ground.gcOnly Go.Departure.lateStores }], guard := none }) (v := ?_) rfl (by kernel_rfl) (by kernel_rfl) (by kernel_rfl) (fun _ _ _ h => h) (Or.inl ⟨by rfl, ?_⟩) hS ?_
      rotate_left
      · (intro w hSw; have hSw := (HSd.out w).1 hSw; go_split_ands; go_simp) <;> with_reducible rfl
      clear hS
      try simp only [Act.put, List.setIfInBounds_toArray, List.set_cons_zero, List.set_cons_succ]
      refine wpAnyH_ready (rs := [2]) (by kernel_rfl) (by simp) ?_
      refine AllReadyH.cons (o := { dst := none, op := Go.Op.store 28 (Go.Operand.tmp 2) (Go.Operand.tmp 49), type := 0, pos := "l08_sectors.go:246", after := #[{ on := 0, ground := Go.Ground.data }, { on := 0, ground := Go.Ground.phase }, { on := 1, ground := Go.Ground.textOnly Go.Departure.lateStores }], guard := none }) rfl (fun Kn hK => ?_) AllReadyH.nil
      have bR0_0 := bR0.cell 0 rfl
      have bR0_1 := bR0.cell 1 rfl
      have bR0_2 := bR0.cell 2 rfl
      have bR0_f0 := bR0.frozen 0
      have bR0_f1 := bR0.frozen 1
      have bR0_f2 := bR0.frozen 2
      have bR0_l := bR0.lt
      go_simp
      clear bR0_0 bR0_f0 bR0_1 bR0_f1 bR0_2 bR0_f2 bR0_l
      generalize hX : World.setCell _ _ _ = V1
      replace HG : Hid (w.grownBy V1 (some s)) := Lib.hid (by rw [← hX]; exact three_set HG.out (by first | omega | (dsimp only; omega)))
      replace HS : Hid (Src V1 s) := Lib.hid (by rw [← hX]; exact src_set3 HS.out (by first | omega | (dsimp only; omega)))
      replace bR1 : Bk V1 (w.heap.size + 1) #[.int .i64 0, .int .i64 0, .int .i64 0] 28 := by rw [← hX]; exact (Bk.other (Bk.other (Bk.other bR1 (by omega) 0 _) (by omega) 1 _) (by omega) 2 _)
      replace bD : Bk V1 (w4.heap.size) #[.int .i64 x1, .int .i64 y1, .int .i64 z1] 28 := by rw [← hX]; exact (Bk.other (Bk.other (Bk.other bD (by omega) 0 _) (by omega) 1 _) (by omega) 2 _)
      replace bE : Bk V1 (w8.heap.size) #[.int .i64 x2, .int .i64 y2, .int .i64 z2] 28 := by rw [← hX]; exact (Bk.other (Bk.other (Bk.other bE (by omega) 0 _) (by omega) 1 _) (by omega) 2 _)
      replace bR0 : Bk V1 (w.heap.size) #[.int .i64 x1, .int .i64 y1, .int .i64 z1] 28 := by rw [← hX]; exact (Bk.set (Bk.set (Bk.set bR0 0 _ rfl) 1 _ rfl) 2 _ rfl)
      clear hX
      refine hK.out _ _ (HSp.out _ bD bE) (fun _ => ?_)
      clear hK Kn
      refine wpAnyH_ready (rs := [3]) (by kernel_rfl) (by simp) ?_
      refine AllReadyH.cons (o := { dst := none, op := Go.Op.store 28 (Go.Operand.tmp 3) (Go.Operand.tmp 50), type := 0, pos := "l08_sectors.go:246", after := #[{ on := 1, ground := Go.Ground.data }, { on := 2, ground := Go.Ground.chain }, { on := 0, ground := Go.Ground.phase }, { on := 1, ground := Go.Ground.phase }, { on := 2, ground := Go.Ground.phase }], guard := none }) rfl (fun Kn hK => ?_) AllReadyH.nil
      have bR1_0 := bR1.cell 0 rfl
      have bR1_1 := bR1.cell 1 rfl
      have bR1_2 := bR1.cell 2 rfl
      have bR1_f0 := bR1.frozen 0
      have bR1_f1 := bR1.frozen 1
      have bR1_f2 := bR1.frozen 2
      have bR1_l := bR1.lt
      go_simp
      clear bR1_0 bR1_f0 bR1_1 bR1_f1 bR1_2 bR1_f2 bR1_l
      generalize hX : World.setCell _ _ _ = V2
      replace HG : Hid (w.grownBy V2 (some s)) := Lib.hid (by rw [← hX]; exact three_set HG.out (by first | omega | (dsimp only; omega)))
      replace HS : Hid (Src V2 s) := Lib.hid (by rw [← hX]; exact src_set3 HS.out (by first | omega | (dsimp only; omega)))
      replace bR0 : Bk V2 (w.heap.size) #[.int .i64 x1, .int .i64 y1, .int .i64 z1] 28 := by rw [← hX]; exact (Bk.other (Bk.other (Bk.other bR0 (by omega) 0 _) (by omega) 1 _) (by omega) 2 _)
      replace bD : Bk V2 (w4.heap.size) #[.int .i64 x1, .int .i64 y1, .int .i64 z1] 28 := by rw [← hX]; exact (Bk.other (Bk.other (Bk.other bD (by omega) 0 _) (by omega) 1 _) (by omega) 2 _)
      replace bE : Bk V2 (w8.heap.size) #[.int .i64 x2, .int .i64 y2, .int .i64 z2] 28 := by rw [← hX]; exact (Bk.other (Bk.other (Bk.other bE (by omega) 0 _) (by omega) 1 _) (by omega) 2 _)
      replace bR1 : Bk V2 (w.heap.size + 1) #[.int .i64 x2, .int .i64 y2, .int .i64 z2] 28 := by rw [← hX]; exact (Bk.set (Bk.set (Bk.set bR1 0 _ rfl) 1 _ rfl) 2 _ rfl)
      clear hX
      refine hK.out _ _ (HSp.out _ bD bE) (fun _ => ?_)
      clear hK Kn
      refine wpAnyH_done (by kernel_rfl) ?_ _
      have r0 := bR0.cell 0 rfl
      have r1 := bR0.cell 1 rfl
      have r2 := bR0.cell 2 rfl
      have p0 := bR1.cell 0 rfl
      have p1 := bR1.cell 1 rfl
      have p2 := bR1.cell 2 rfl
      go_wp2
      exact bodyPost_ret (v := .tuple #[.agg #[.int .i64 x1, .int .i64 y1, .int .i64 z1], .agg #[.int .i64 x2, .int .i64 y2, .int .i64 z2]]) (by simp [results, Tryz.results30, go_sem, r0, r1, r2, p0, p1, p2]) rfl ⟨_, _, _, _, _, _, rfl, HS.out, HG.out⟩
end
section
/- The model's draws of a cell, of a receiver, and of a verdict's arguments. -/
open Go.ChangeShapes Go.WideShapes Go.ChangeAt Go.RowKit Go.Shelf Num
set_option linter.unusedVariables false
set_option linter.unusedSimpArgs false
/-- a profile whose rows lie behind a mark and below another one -/
structure PrX (w : World) (B m : Nat) (a b : Option Addr) (zs ys : List Int) : Prop where
  at_ : Prof w B a b zs ys
  lo1 : ∀ x, a = some x → m < x.block
  lo2 : ∀ x, b = some x → m < x.block
  n1 : zs.length ≤ 20
  n2 : ys.length ≤ 20
theorem PrX.of {w : World} {m c d : Nat} {a b : Option Addr} {zs ys : List Int} (h : PrA w m a b c d zs ys) : PrX w w.heap.size m a b zs ys := ⟨h.at_, h.lo1, h.lo2, h.n1, h.n2⟩
theorem PrX.below {w w' : World} {B m : Nat} {a b : Option Addr} {zs ys : List Int} (h : PrX w B m a b zs ys) (hb : Below B w w') : PrX w' B m a b zs ys := ⟨h.at_.below hb, h.lo1, h.lo2, h.n1, h.n2⟩
theorem PrX.grown {w w' : World} {B m s : Nat} {a b : Option Addr} {zs ys : List Int} (h : PrX w B m a b zs ys) (hs : s ≤ m) (hg : w.grownBy w' (some s)) : PrX w' B m a b zs ys :=
  ⟨prof_at h.at_ (fun x e hx => hg.block _ hx (by have := h.lo1 x e; simp; omega)) (fun x e hx => hg.block _ hx (by have := h.lo2 x e; simp; omega)), h.lo1, h.lo2, h.n1, h.n2⟩
theorem PrX.lo {w : World} {B m g k : Nat} {a b : Option Addr} {zs ys : List Int} (h : PrX w B m a b zs ys) (hp : g ≤ m) (v : Value) : PrX (w.setCell ⟨g, k, none⟩ v) B m a b zs ys :=
  ⟨prof_at h.at_ (fun x e hx => Below.heap_setCell w ⟨g, k, none⟩ v x.block (by have := h.lo1 x e; show x.block ≠ g; omega)) (fun x e hx => Below.heap_setCell w ⟨g, k, none⟩ v x.block (by have := h.lo2 x e; show x.block ≠ g; omega)), h.lo1, h.lo2, h.n1, h.n2⟩
theorem PrX.hi {w : World} {B m g k : Nat} {a b : Option Addr} {zs ys : List Int} (h : PrX w B m a b zs ys) (hp : B ≤ g) (v : Value) : PrX (w.setCell ⟨g, k, none⟩ v) B m a b zs ys := h.below ((Below.refl _ _).setCell (p := ⟨g, k, none⟩) hp v)
theorem PrX.wide {w : World} {B m B' m' : Nat} {a b : Option Addr} {zs ys : List Int} (h : PrX w B m a b zs ys) (hB : B ≤ B') (hm : m' ≤ m) : PrX w B' m' a b zs ys := ⟨h.at_.more hB, fun x e => Nat.lt_of_le_of_lt hm (h.lo1 x e), fun x e => Nat.lt_of_le_of_lt hm (h.lo2 x e), h.n1, h.n2⟩

theorem two_setN {w w' : World} {s g : Nat} {a b : Value} (h : w.grownBy w' (some s)) (hg : w.heap.size ≤ g) : w.grownBy ((w'.setCell ⟨g, 0, none⟩ a).setCell ⟨g, 1, none⟩ b) (some s) := grown_set_new (grown_set_new h hg _) hg _
theorem src_set2N {w : World} {s g : Nat} {a b : Value} (h : Src w s) (hg : s < g) : Src ((w.setCell ⟨g, 0, none⟩ a).setCell ⟨g, 1, none⟩ b) s := (h.set_far hg _).set_far hg _
def R8Drawn (w : World) (s : Nat) (e : Ending) (w' : World) : Prop :=
  ∃ (a b : Option Addr) (c d : Nat) (zs ys : List Int) (x p q r u v t n : Int), e = .returned (.tuple #[.agg #[.slice a zs.length c, .slice b ys.length d], .int .i64 x, .agg #[.int .i64 p, .int .i64 q, .int .i64 r], .agg #[.int .i64 u, .int .i64 v, .int .i64 t], .int .i64 n]) ∧ PrX w' w'.heap.size (w.heap.size + 1 + 1) a b zs ys ∧ Src w' s ∧ w.grownBy w' (some s)
def DstDrawn (w : World) (s : Nat) (e : Ending) (w' : World) : Prop := ∃ k v : Int, e = .returned (.tuple #[.int .i64 k, .int .i64 v]) ∧ Src w' s ∧ w.grownBy w' (some s)
def CvB (w : World) (e : Ending) (w' : World) : Prop :=
  ∃ (a b : Option Addr) (c d : Nat) (zs ys : List Int) (x p q r u v t n k m : Int), e = .returned (.tuple #[.agg #[.slice a zs.length c, .slice b ys.length d], .int .i64 x, .agg #[.int .i64 p, .int .i64 q, .int .i64 r], .agg #[.int .i64 u, .int .i64 v, .int .i64 t], .int .i64 n, .int .i64 k, .int .i64 m]) ∧ PrX w' w'.heap.size w.heap.size a b zs ys ∧ Below w.heap.size w w'
theorem four_cN (j : Nat) (hj : j < 4) : (#[.int .i64 (-1), .int .i64 0, .int .i64 1000000000000, .int .i64 1000000000001] : Array Value)[j]? = some (.int .i64 ([(-1 : Int), 0, 1000000000000, 1000000000001].getD j 0)) := by
  match j, hj with
  | 0, _ => rfl
  | 1, _ => rfl
  | 2, _ => rfl
  | 3, _ => rfl

set_option maxRecDepth 100000 in
set_option maxHeartbeats 16000000 in
theorem d8r_any (w : World) (s : Nat) (h : Src w s) :
    Calls Tryz.prog 13 #[.pointer (some ⟨s, 0, none⟩)] w (R8Drawn w s) := by
  have hls0 := h.lt
  have HS := Lib.hid h
  clear h
  go_enter Tryz.func13, Tryz.ntmps13
  go_wp2_with fail
  generalize hW : World.alloc _ _ = W
  have bR : Bk W (w.heap.size) #[.slice none 0 0, .slice none 0 0] 26 := by rw [← hW]; repeat (first | (refine Bk.new' ?_; (simp; done)) | refine Bk.alloc ?_ _)
  have bE : Bk W (w.heap.size + 1) #[.int .i64 0, .int .i64 0, .int .i64 0] 28 := by rw [← hW]; repeat (first | (refine Bk.new' ?_; (simp; done)) | refine Bk.alloc ?_ _)
  have bF : Bk W (w.heap.size + 1 + 1) #[.int .i64 0, .int .i64 0, .int .i64 0] 28 := by rw [← hW]; repeat (first | (refine Bk.new' ?_; (simp; done)) | refine Bk.alloc ?_ _)
  have HG : Hid (w.grownBy W (some s)) := Lib.hid (by rw [← hW]; exact grown_alloc (grown_alloc (grown_alloc (grown_refl _ _) _) _) _)
  replace HS : Hid (Src W s) := Lib.hid (by rw [← hW]; exact ((HS.out.alloc _).alloc _).alloc _)
  have hls := HS.out.lt
  have hWl : W.heap.size = w.heap.size + 1 + 1 + 1 := by rw [← hW]; simp
  clear hW
  refine (dkn_any _ _ HS.out).mono ?_
  rintro e w1 ⟨a, b, c, d, zs, ys, x, rfl, hp, hg, hs⟩
  replace bR := bR.kept hg (by simp; omega)
  replace bE := bE.kept hg (by simp; omega)
  replace bF := bF.kept hg (by simp; omega)
  have hz1 := hg.size
  have HP : Hid (PrX w1 w1.heap.size (w.heap.size + 1 + 1) a b zs ys) := Lib.hid ((PrX.of hp).wide (Nat.le_refl _) (by omega))
  replace HG := Lib.hid (grown_trans HG.out hg)
  replace HS := Lib.hid hs
  have hls1 := HS.out.lt
  clear hg hs hp
  go_upto_region 2 with fail
  obtain ⟨W2, hW⟩ : ∃ X, X = w1.alloc (.cells #[.slice a zs.length c, .slice b ys.length d] 26) := ⟨_, rfl⟩
  rw [← hW]
  have bP : Bk W2 w1.heap.size #[.slice a zs.length c, .slice b ys.length d] 26 := by rw [hW]; exact Bk.new' rfl
  have hb : Below w1.heap.size w1 W2 := by rw [hW]; exact (Below.refl _ _).alloc (Nat.le_refl _) _
  have hz2 := hb.size
  have hzP := bP.lt
  replace bR := bR.on hb
  replace bE := bE.on hb
  replace bF := bF.on hb
  replace HG := Lib.hid (grown_bel HG.out hb)
  replace HS := Lib.hid (HS.out.bel hb)
  replace HP := Lib.hid (HP.out.below hb)
  clear hW hb
  replace hls := HS.out.lt
  go_wp2_with fail
  refine (d8c_any _ _ HS.out).mono ?_
  rintro e w3 ⟨x1, y1, z1, x2, y2, z2, rfl, hs, hg⟩
  replace bR := bR.kept hg (by simp; omega)
  replace bE := bE.kept hg (by simp; omega)
  replace bF := bF.kept hg (by simp; omega)
  replace bP := bP.kept hg (by simp; omega)
  have hzz := hg.size
  replace HP := Lib.hid (HP.out.grown (by omega) hg)
  replace HG := Lib.hid (grown_trans HG.out hg)
  replace HS := Lib.hid hs
  replace hls := HS.out.lt
  clear hs hg
  have hz3 := hzz
  clear hzz
  go_upto_region 3 with fail
  obtain ⟨W4, hW⟩ : ∃ X, X = (w3.alloc (.cells #[.int .i64 x1, .int .i64 y1, .int .i64 z1] 28)).alloc (.cells #[.int .i64 x2, .int .i64 y2, .int .i64 z2] 28) := ⟨_, rfl⟩
  rw [← hW]
  have bD : Bk W4 w3.heap.size #[.int .i64 x1, .int .i64 y1, .int .i64 z1] 28 := by rw [hW]; exact (Bk.new' rfl).alloc _
  have bG : Bk W4 (w3.heap.size + 1) #[.int .i64 x2, .int .i64 y2, .int .i64 z2] 28 := by rw [hW]; exact Bk.new' (by simp)
  have hb : Below w3.heap.size w3 W4 := by rw [hW]; exact ((Below.refl _ _).alloc (Nat.le_refl _) _).alloc (by simp) _
  have hz4 := hb.size
  have hls3 : s < w3.heap.size := hls
  replace bR := bR.on hb
  replace bE := bE.on hb
  replace bF := bF.on hb
  replace bP := bP.on hb
  replace HG := Lib.hid (grown_bel HG.out hb)
  replace HS := Lib.hid (HS.out.bel hb)
  replace HP := Lib.hid (HP.out.below (hb.mono (by omega)))
  clear hW hb
  replace hls := HS.out.lt
  go_wp2_with fail
  refine (nxt_any _ _ _ HS.out).mono ?_
  rintro e w5 ⟨n, rfl, -, -, -, hs, hg⟩
  replace bR := bR.kept hg (by simp; omega)
  replace bE := bE.kept hg (by simp; omega)
  replace bF := bF.kept hg (by simp; omega)
  replace bP := bP.kept hg (by simp; omega)
  replace bD := bD.kept hg (by simp; omega)
  replace bG := bG.kept hg (by simp; omega)
  have hzz := hg.size
  replace HP := Lib.hid (HP.out.grown (by omega) hg)
  replace HG := Lib.hid (grown_trans HG.out hg)
  replace HS := Lib.hid hs
  replace hls := HS.out.lt
  clear hs hg
  have hz5 := hzz
  clear hzz
  go_wp2_with fail
  refine (nxt_any _ _ _ HS.out).mono ?_
  rintro e w6 ⟨g, rfl, -, -, -, hs, hg⟩
  replace bR := bR.kept hg (by simp; omega)
  replace bE := bE.kept hg (by simp; omega)
  replace bF := bF.kept hg (by simp; omega)
  replace bP := bP.kept hg (by simp; omega)
  replace bD := bD.kept hg (by simp; omega)
  replace bG := bG.kept hg (by simp; omega)
  have hzz := hg.size
  replace HP := Lib.hid (HP.out.grown (by omega) hg)
  replace HG := Lib.hid (grown_trans HG.out hg)
  replace HS := Lib.hid hs
  replace hls := HS.out.lt
  clear hs hg
  have hz6 := hzz
  clear hzz
  by_cases g0 : g = 0
  subst g0
  go_wp2_with fail
  refine (pick3c _ _ w6.heap.size _ _ _ _ (HS.out.alloc _) (by omega) (heap_alloc_new w6 _)).mono ?_
  rintro e WZ ⟨n, rfl, -, hs, hg⟩
  replace bR := (bR.alloc _).kept hg (by simp; omega)
  replace bE := (bE.alloc _).kept hg (by simp; omega)
  replace bF := (bF.alloc _).kept hg (by simp; omega)
  replace bP := (bP.alloc _).kept hg (by simp; omega)
  replace bD := (bD.alloc _).kept hg (by simp; omega)
  replace bG := (bG.alloc _).kept hg (by simp; omega)
  replace HP := Lib.hid ((HP.out.below ((Below.refl _ _).alloc (by omega) _)).grown (by omega) hg)
  replace HG := Lib.hid (grown_trans (grown_alloc HG.out _) hg)
  replace HS := Lib.hid hs
  have hzZ : w6.heap.size ≤ WZ.heap.size := Nat.le_trans (by simp) hg.size
  clear hs hg
  go_upto_region 9 with fail
  rotate_left
  have b0 : (g == 0) = false := by simpa using g0
  go_upto_region 9 with fail
  refine (ddi_any _ _ HS.out).mono ?_
  rintro e w7 ⟨x1, y1, z1, rfl, hs, hg⟩
  replace bR := bR.kept hg (by simp; omega)
  replace bE := bE.kept hg (by simp; omega)
  replace bF := bF.kept hg (by simp; omega)
  replace bP := bP.kept hg (by simp; omega)
  replace bD := bD.kept hg (by simp; omega)
  replace bG := bG.kept hg (by simp; omega)
  have hzz := hg.size
  replace HP := Lib.hid (HP.out.grown (by omega) hg)
  replace HG := Lib.hid (grown_trans HG.out hg)
  replace HS := Lib.hid hs
  replace hls := HS.out.lt
  clear hs hg
  have bD_0 := bD.cell 0 rfl
  have bD_1 := bD.cell 1 rfl
  have bD_2 := bD.cell 2 rfl
  have bD_f0 := bD.frozen 0
  have bD_f1 := bD.frozen 1
  have bD_f2 := bD.frozen 2
  have bD_l := bD.lt
  go_upto_region 9 with fail
  clear bD_0 bD_1 bD_2 bD_f0 bD_f1 bD_f2 bD_l
  obtain ⟨WZ, hX⟩ : ∃ X, X = (World.setCell (World.setCell (World.setCell w7 ⟨w3.heap.size, 0, none⟩ (.int .i64 x1)) ⟨w3.heap.size, 1, none⟩ (.int .i64 y1)) ⟨w3.heap.size, 2, none⟩ (.int .i64 z1)) := ⟨_, rfl⟩
  rw [← hX]
  replace bR : Bk WZ (w.heap.size) #[.slice none 0 0, .slice none 0 0] 26 := by rw [hX]; exact (Bk.other (Bk.other (Bk.other bR (by omega) 0 _) (by omega) 1 _) (by omega) 2 _)
  replace bE : Bk WZ (w.heap.size + 1) #[.int .i64 0, .int .i64 0, .int .i64 0] 28 := by rw [hX]; exact (Bk.other (Bk.other (Bk.other bE (by omega) 0 _) (by omega) 1 _) (by omega) 2 _)
  replace bF : Bk WZ (w.heap.size + 1 + 1) #[.int .i64 0, .int .i64 0, .int .i64 0] 28 := by rw [hX]; exact (Bk.other (Bk.other (Bk.other bF (by omega) 0 _) (by omega) 1 _) (by omega) 2 _)
  replace bP : Bk WZ (w1.heap.size) #[.slice a zs.length c, .slice b ys.length d] 26 := by rw [hX]; exact (Bk.other (Bk.other (Bk.other bP (by omega) 0 _) (by omega) 1 _) (by omega) 2 _)
  replace bG : Bk WZ (w3.heap.size + 1) #[.int .i64 x2, .int .i64 y2, .int .i64 z2] 28 := by rw [hX]; exact (Bk.other (Bk.other (Bk.other bG (by omega) 0 _) (by omega) 1 _) (by omega) 2 _)
  replace bD : Bk WZ w3.heap.size #[.int .i64 x1, .int .i64 y1, .int .i64 z1] 28 := by rw [hX]; exact (Bk.set (Bk.set (Bk.set bD 0 _ rfl) 1 _ rfl) 2 _ rfl)
  replace HP : Hid (PrX WZ w1.heap.size (w.heap.size + 1 + 1) a b zs ys) := Lib.hid (by rw [hX]; exact (PrX.hi (PrX.hi (PrX.hi HP.out (by omega) _) (by omega) _) (by omega) _))
  replace HG : Hid (w.grownBy WZ (some s)) := Lib.hid (by rw [hX]; exact three_set HG.out (by omega))
  replace HS : Hid (Src WZ s) := Lib.hid (by rw [hX]; exact src_set3 HS.out (by omega))
  have hzZ : w6.heap.size ≤ WZ.heap.size := by rw [hX]; simpa [World.setCell] using hzz
  clear hX hzz
  rotate_left
  obtain ⟨WZ, hX⟩ : ∃ X, X = w6 := ⟨_, rfl⟩
  rw [← hX] at bR bE bF bP bD bG HG HS HP ⊢
  have hzZ : w6.heap.size ≤ WZ.heap.size := by rw [hX]; exact Nat.le_refl _
  clear hX
  all_goals
    have HW : Hid (Below WZ.heap.size WZ WZ) := Lib.hid (Below.refl _ _)
    obtain ⟨S, hSd⟩ : ∃ S : World → Prop, ∀ w', S w' ↔ (w'.cell? ⟨w1.heap.size, 0, none⟩ = some (.slice a zs.length c) ∧ w'.cell? ⟨w1.heap.size, 1, none⟩ = some (.slice b ys.length d) ∧ w'.cell? ⟨w3.heap.size, 0, none⟩ = some (.int .i64 x1) ∧ w'.cell? ⟨w3.heap.size, 1, none⟩ = some (.int .i64 y1) ∧ w'.cell? ⟨w3.heap.size, 2, none⟩ = some (.int .i64 z1) ∧ w'.cell? ⟨w3.heap.size + 1, 0, none⟩ = some (.int .i64 x2) ∧ w'.cell? ⟨w3.heap.size + 1, 1, none⟩ = some (.int .i64 y2) ∧ w'.cell? ⟨w3.heap.size + 1, 2, none⟩ = some (.int .i64 z2)) := ⟨_, fun _ => Iff.rfl⟩
    have HSp : Hid (∀ w' : World, Bk w' (w1.heap.size) #[.slice a zs.length c, .slice b ys.length d] 26 → Bk w' (w3.heap.size) #[.int .i64 x1, .int .i64 y1, .int .i64 z1] 28 → Bk w' (w3.heap.size + 1) #[.int .i64 x2, .int .i64 y2, .int .i64 z2] 28 → S w') := Lib.hid (fun w' bP bD bG => (hSd w').2 ⟨bP.cell 0 rfl, bP.cell 1 rfl, bD.cell 0 rfl, bD.cell 1 rfl, bD.cell 2 rfl, bG.cell 0 rfl, bG.cell 1 rfl, bG.cell 2 rfl⟩)
    have HSd := Lib.hid hSd
    clear hSd
    refine wp_region_held_drew (S := S) (by kernel_rfl) ?_ (fun hH => ?_)
    · exact (HSp.out _ bP bD bG : S (World.drew WZ))
    clear hH
    generalize hX : World.drew WZ = V0
    replace bR : Bk V0 (w.heap.size) #[.slice none 0 0, .slice none 0 0] 26 := by rw [← hX]; exact bR
    replace bE : Bk V0 (w.heap.size + 1) #[.int .i64 0, .int .i64 0, .int .i64 0] 28 := by rw [← hX]; exact bE
    replace bF : Bk V0 (w.heap.size + 1 + 1) #[.int .i64 0, .int .i64 0, .int .i64 0] 28 := by rw [← hX]; exact bF
    replace bP : Bk V0 (w1.heap.size) #[.slice a zs.length c, .slice b ys.length d] 26 := by rw [← hX]; exact bP
    replace bD : Bk V0 (w3.heap.size) #[.int .i64 x1, .int .i64 y1, .int .i64 z1] 28 := by rw [← hX]; exact bD
    replace bG : Bk V0 (w3.heap.size + 1) #[.int .i64 x2, .int .i64 y2, .int .i64 z2] 28 := by rw [← hX]; exact bG
    have hb : Below WZ.heap.size WZ V0 := by rw [← hX]; exact (Below.refl _ _).drew
    clear hX
    replace HG := Lib.hid (grown_bel HG.out hb)
    replace HS := Lib.hid (HS.out.bel hb)
    replace HP := Lib.hid (HP.out.below (hb.mono (by omega)))
    replace HW := Lib.hid (bel_end HW.out hb)
    clear hb
    have hS := HSp.out _ bP bD bG
    refine wpAnyH_take (i := 0) (oi := { dst := some 35, op := Go.Op.load 26 (Go.Operand.tmp 7), type := 26, pos := "l08_sectors.go:270", after := #[], guard := none }) (v := ?_) rfl (by kernel_rfl) (by kernel_rfl) (by kernel_rfl) (fun _ _ _ h => h) (Or.inl ⟨by rfl, ?_⟩) hS ?_
    rotate_left
    · (intro w hSw; have hSw := (HSd.out w).1 hSw; go_split_ands; go_simp) <;> with_reducible rfl
    clear hS
    try simp only [Act.put, List.setIfInBounds_toArray, List.set_cons_zero, List.set_cons_succ]
    have hS := HSp.out _ bP bD bG
    refine wpAnyH_take (i := 1) (oi := { dst := some 36, op := Go.Op.move (Go.Operand.tmp 8), type := 2, pos := "l08_sectors.go:270", after := #[{ on := 5, ground := Go.Ground.gcOnly Go.Departure.lateStores }], guard := none }) (v := ?_) rfl (by kernel_rfl) (by kernel_rfl) (by kernel_rfl) (fun _ _ _ h => h) (Or.inl ⟨by rfl, ?_⟩) hS ?_
    rotate_left
    · (intro w hSw; have hSw := (HSd.out w).1 hSw; go_split_ands; go_simp) <;> with_reducible rfl
    clear hS
    try simp only [Act.put, List.setIfInBounds_toArray, List.set_cons_zero, List.set_cons_succ]
    have hS := HSp.out _ bP bD bG
    refine wpAnyH_take (i := 2) (oi := { dst := some 37, op := Go.Op.load 28 (Go.Operand.tmp 9), type := 28, pos := "l08_sectors.go:270", after := #[{ on := 6, ground := Go.Ground.gcOnly Go.Departure.lateStores }], guard := none }) (v := ?_) rfl (by kernel_rfl) (by kernel_rfl) (by kernel_rfl) (fun _ _ _ h => h) (Or.inl ⟨by rfl, ?_⟩) hS ?_
    rotate_left
    · (intro w hSw; have hSw := (HSd.out w).1 hSw; go_split_ands; go_simp) <;> with_reducible rfl
    clear hS
    try simp only [Act.put, List.setIfInBounds_toArray, List.set_cons_zero, List.set_cons_succ]
    have hS := HSp.out _ bP bD bG
    refine wpAnyH_take (i := 3) (oi := { dst := some 38, op := Go.Op.load 28 (Go.Operand.tmp 10), type := 28, pos := "l08_sectors.go:270", after := #[{ on := 7, ground := Go.Ground.gcOnly Go.Departure.lateStores }], guard := none }) (v := ?_) rfl (by kernel_rfl) (by kernel_rfl) (by kernel_rfl) (fun _ _ _ h => h) (Or.inl ⟨by rfl, ?_⟩) hS ?_
    rotate_left
    · (intro w hSw; have hSw := (HSd.out w).1 hSw; go_split_ands; go_simp) <;> with_reducible rfl
    clear hS
    try simp only [Act.put, List.setIfInBounds_toArray, List.set_cons_zero, List.set_cons_succ]
    have hS := HSp.out _ bP bD bG
    refine wpAnyH_take (i := 4) (oi := { dst := some 39, op := Go.Op.move (Go.Operand.tmp 11), type := 2, pos := "l08_sectors.go:270", after := #[{ on := 8, ground := Go.Ground.gcOnly Go.Departure.lateStores }], guard := none }) (v := ?_) rfl (by kernel_rfl) (by kernel_rfl) (by kernel_rfl) (fun _ _ _ h => h) (Or.inl ⟨by rfl, ?_⟩) hS ?_
    rotate_left
    · (intro w hSw; have hSw := (HSd.out w).1 hSw; go_split_ands; go_simp) <;> with_reducible rfl
    clear hS
    try simp only [Act.put, List.setIfInBounds_toArray, List.set_cons_zero, List.set_cons_succ]
    refine wpAnyH_ready (rs := [5]) (by kernel_rfl) (by simp) ?_
    refine AllReadyH.cons (o := { dst := none, op := Go.Op.store 26 (Go.Operand.tmp 2) (Go.Operand.tmp 35), type := 0, pos := "l08_sectors.go:270", after := #[{ on := 0, ground := Go.Ground.data }, { on := 0, ground := Go.Ground.phase }, { on := 1, ground := Go.Ground.textOnly Go.Departure.lateStores }, { on := 2, ground := Go.Ground.textOnly Go.Departure.lateStores }, { on := 3, ground := Go.Ground.textOnly Go.Departure.lateStores }, { on := 4, ground := Go.Ground.textOnly Go.Departure.lateStores }], guard := none }) rfl (fun Kn hK => ?_) AllReadyH.nil
    have bR_0 := bR.cell 0 rfl
    have bR_1 := bR.cell 1 rfl
    have bR_f0 := bR.frozen 0
    have bR_f1 := bR.frozen 1
    have bR_l := bR.lt
    go_simp
    clear bR_0 bR_f0 bR_1 bR_f1 bR_l
    generalize hX : World.setCell _ _ _ = V1
    replace HG : Hid (w.grownBy V1 (some s)) := Lib.hid (by rw [← hX]; exact two_setN HG.out (by first | omega | (dsimp only; omega)))
    replace HS : Hid (Src V1 s) := Lib.hid (by rw [← hX]; exact src_set2N HS.out (by first | omega | (dsimp only; omega)))
    replace HP : Hid (PrX V1 w1.heap.size (w.heap.size + 1 + 1) a b zs ys) := Lib.hid (by rw [← hX]; exact (PrX.lo (PrX.lo HP.out (by omega) _) (by omega) _))
    replace bE : Bk V1 (w.heap.size + 1) #[.int .i64 0, .int .i64 0, .int .i64 0] 28 := by rw [← hX]; exact (Bk.other (Bk.other bE (by omega) 0 _) (by omega) 1 _)
    replace bF : Bk V1 (w.heap.size + 1 + 1) #[.int .i64 0, .int .i64 0, .int .i64 0] 28 := by rw [← hX]; exact (Bk.other (Bk.other bF (by omega) 0 _) (by omega) 1 _)
    replace bP : Bk V1 (w1.heap.size) #[.slice a zs.length c, .slice b ys.length d] 26 := by rw [← hX]; exact (Bk.other (Bk.other bP (by omega) 0 _) (by omega) 1 _)
    replace bD : Bk V1 (w3.heap.size) #[.int .i64 x1, .int .i64 y1, .int .i64 z1] 28 := by rw [← hX]; exact (Bk.other (Bk.other bD (by omega) 0 _) (by omega) 1 _)
    replace bG : Bk V1 (w3.heap.size + 1) #[.int .i64 x2, .int .i64 y2, .int .i64 z2] 28 := by rw [← hX]; exact (Bk.other (Bk.other bG (by omega) 0 _) (by omega) 1 _)
    replace bR : Bk V1 (w.heap.size) #[.slice a zs.length c, .slice b ys.length d] 26 := by rw [← hX]; exact (Bk.set (Bk.set bR 0 _ rfl) 1 _ rfl)
    clear hX
    refine hK.out _ _ (HSp.out _ bP bD bG) (fun _ => ?_)
    clear hK Kn
    have hS := HSp.out _ bP bD bG
    refine wpAnyH_take (i := 6) (oi := { dst := some 3, op := Go.Op.assign (Go.Operand.tmp 36), type := 2, pos := "l08_sectors.go:270", after := #[{ on := 1, ground := Go.Ground.data }, { on := 5, ground := Go.Ground.chain }, { on := 0, ground := Go.Ground.phase }, { on := 1, ground := Go.Ground.phase }, { on := 2, ground := Go.Ground.textOnly Go.Departure.lateStores }, { on := 3, ground := Go.Ground.textOnly Go.Departure.lateStores }, { on := 4, ground := Go.Ground.textOnly Go.Departure.lateStores }, { on := 5, ground := Go.Ground.phase }], guard := none }) (v := ?_) rfl (by kernel_rfl) (by kernel_rfl) (by kernel_rfl) (fun _ _ _ h => h) (Or.inl ⟨by rfl, ?_⟩) hS ?_
    rotate_left
    · (intro w hSw; have hSw := (HSd.out w).1 hSw; go_split_ands; go_simp) <;> with_reducible rfl
    clear hS
    try simp only [Act.put, List.setIfInBounds_toArray, List.set_cons_zero, List.set_cons_succ]
    refine wpAnyH_ready (rs := [7]) (by kernel_rfl) (by simp) ?_
    refine AllReadyH.cons (o := { dst := none, op := Go.Op.store 28 (Go.Operand.tmp 4) (Go.Operand.tmp 37), type := 0, pos := "l08_sectors.go:270", after := #[{ on := 2, ground := Go.Ground.data }, { on := 6, ground := Go.Ground.chain }, { on := 0, ground := Go.Ground.phase }, { on := 1, ground := Go.Ground.phase }, { on := 2, ground := Go.Ground.phase }, { on := 3, ground := Go.Ground.textOnly Go.Departure.lateStores }, { on := 4, ground := Go.Ground.textOnly Go.Departure.lateStores }, { on := 5, ground := Go.Ground.phase }, { on := 6, ground := Go.Ground.phase }], guard := none }) rfl (fun Kn hK => ?_) AllReadyH.nil
    have bE_0 := bE.cell 0 rfl
    have bE_1 := bE.cell 1 rfl
    have bE_2 := bE.cell 2 rfl
    have bE_f0 := bE.frozen 0
    have bE_f1 := bE.frozen 1
    have bE_f2 := bE.frozen 2
    have bE_l := bE.lt
    go_simp
    clear bE_0 bE_f0 bE_1 bE_f1 bE_2 bE_f2 bE_l
    generalize hX : World.setCell _ _ _ = V2
    replace HG : Hid (w.grownBy V2 (some s)) := Lib.hid (by rw [← hX]; exact three_set HG.out (by first | omega | (dsimp only; omega)))
    replace HS : Hid (Src V2 s) := Lib.hid (by rw [← hX]; exact src_set3 HS.out (by first | omega | (dsimp only; omega)))
    replace HP : Hid (PrX V2 w1.heap.size (w.heap.size + 1 + 1) a b zs ys) := Lib.hid (by rw [← hX]; exact (PrX.lo (PrX.lo (PrX.lo HP.out (by omega) _) (by omega) _) (by omega) _))
    replace bR : Bk V2 (w.heap.size) #[.slice a zs.length c, .slice b ys.length d] 26 := by rw [← hX]; exact (Bk.other (Bk.other (Bk.other bR (by omega) 0 _) (by omega) 1 _) (by omega) 2 _)
    replace bF : Bk V2 (w.heap.size + 1 + 1) #[.int .i64 0, .int .i64 0, .int .i64 0] 28 := by rw [← hX]; exact (Bk.other (Bk.other (Bk.other bF (by omega) 0 _) (by omega) 1 _) (by omega) 2 _)
    replace bP : Bk V2 (w1.heap.size) #[.slice a zs.length c, .slice b ys.length d] 26 := by rw [← hX]; exact (Bk.other (Bk.other (Bk.other bP (by omega) 0 _) (by omega) 1 _) (by omega) 2 _)
    replace bD : Bk V2 (w3.heap.size) #[.int .i64 x1, .int .i64 y1, .int .i64 z1] 28 := by rw [← hX]; exact (Bk.other (Bk.other (Bk.other bD (by omega) 0 _) (by omega) 1 _) (by omega) 2 _)
    replace bG : Bk V2 (w3.heap.size + 1) #[.int .i64 x2, .int .i64 y2, .int .i64 z2] 28 := by rw [← hX]; exact (Bk.other (Bk.other (Bk.other bG (by omega) 0 _) (by omega) 1 _) (by omega) 2 _)
    replace bE : Bk V2 (w.heap.size + 1) #[.int .i64 x1, .int .i64 y1, .int .i64 z1] 28 := by rw [← hX]; exact (Bk.set (Bk.set (Bk.set bE 0 _ rfl) 1 _ rfl) 2 _ rfl)
    clear hX
    refine hK.out _ _ (HSp.out _ bP bD bG) (fun _ => ?_)
    clear hK Kn
    refine wpAnyH_ready (rs := [8]) (by kernel_rfl) (by simp) ?_
    refine AllReadyH.cons (o := { dst := none, op := Go.Op.store 28 (Go.Operand.tmp 5) (Go.Operand.tmp 38), type := 0, pos := "l08_sectors.go:270", after := #[{ on := 3, ground := Go.Ground.data }, { on := 7, ground := Go.Ground.chain }, { on := 0, ground := Go.Ground.phase }, { on := 1, ground := Go.Ground.phase }, { on := 2, ground := Go.Ground.phase }, { on := 3, ground := Go.Ground.phase }, { on := 4, ground := Go.Ground.textOnly Go.Departure.lateStores }, { on := 5, ground := Go.Ground.phase }, { on := 6, ground := Go.Ground.phase }, { on := 7, ground := Go.Ground.phase }], guard := none }) rfl (fun Kn hK => ?_) AllReadyH.nil
    have bF_0 := bF.cell 0 rfl
    have bF_1 := bF.cell 1 rfl
    have bF_2 := bF.cell 2 rfl
    have bF_f0 := bF.frozen 0
    have bF_f1 := bF.frozen 1
    have bF_f2 := bF.frozen 2
    have bF_l := bF.lt
    go_simp
    clear bF_0 bF_f0 bF_1 bF_f1 bF_2 bF_f2 bF_l
    generalize hX : World.setCell _ _ _ = V3
    replace HG : Hid (w.grownBy V3 (some s)) := Lib.hid (by rw [← hX]; exact three_set HG.out (by first | omega | (dsimp only; omega)))
    replace HS : Hid (Src V3 s) := Lib.hid (by rw [← hX]; exact src_set3 HS.out (by first | omega | (dsimp only; omega)))
    replace HP : Hid (PrX V3 w1.heap.size (w.heap.size + 1 + 1) a b zs ys) := Lib.hid (by rw [← hX]; exact (PrX.lo (PrX.lo (PrX.lo HP.out (by omega) _) (by omega) _) (by omega) _))
    replace bR : Bk V3 (w.heap.size) #[.slice a zs.length c, .slice b ys.length d] 26 := by rw [← hX]; exact (Bk.other (Bk.other (Bk.other bR (by omega) 0 _) (by omega) 1 _) (by omega) 2 _)
    replace bE : Bk V3 (w.heap.size + 1) #[.int .i64 x1, .int .i64 y1, .int .i64 z1] 28 := by rw [← hX]; exact (Bk.other (Bk.other (Bk.other bE (by omega) 0 _) (by omega) 1 _) (by omega) 2 _)
    replace bP : Bk V3 (w1.heap.size) #[.slice a zs.length c, .slice b ys.length d] 26 := by rw [← hX]; exact (Bk.other (Bk.other (Bk.other bP (by omega) 0 _) (by omega) 1 _) (by omega) 2 _)
    replace bD : Bk V3 (w3.heap.size) #[.int .i64 x1, .int .i64 y1, .int .i64 z1] 28 := by rw [← hX]; exact (Bk.other (Bk.other (Bk.other bD (by omega) 0 _) (by omega) 1 _) (by omega) 2 _)
    replace bG : Bk V3 (w3.heap.size + 1) #[.int .i64 x2, .int .i64 y2, .int .i64 z2] 28 := by rw [← hX]; exact (Bk.other (Bk.other (Bk.other bG (by omega) 0 _) (by omega) 1 _) (by omega) 2 _)
    replace bF : Bk V3 (w.heap.size + 1 + 1) #[.int .i64 x2, .int .i64 y2, .int .i64 z2] 28 := by rw [← hX]; exact (Bk.set (Bk.set (Bk.set bF 0 _ rfl) 1 _ rfl) 2 _ rfl)
    clear hX
    refine hK.out _ _ (HSp.out _ bP bD bG) (fun _ => ?_)
    clear hK Kn
    have hS := HSp.out _ bP bD bG
    refine wpAnyH_take (i := 9) (oi := { dst := some 6, op := Go.Op.assign (Go.Operand.tmp 39), type := 2, pos := "l08_sectors.go:270", after := #[{ on := 4, ground := Go.Ground.data }, { on := 8, ground := Go.Ground.chain }, { on := 0, ground := Go.Ground.phase }, { on := 1, ground := Go.Ground.phase }, { on := 2, ground := Go.Ground.phase }, { on := 3, ground := Go.Ground.phase }, { on := 4, ground := Go.Ground.phase }, { on := 5, ground := Go.Ground.phase }, { on := 6, ground := Go.Ground.phase }, { on := 7, ground := Go.Ground.phase }, { on := 8, ground := Go.Ground.phase }], guard := none }) (v := ?_) rfl (by kernel_rfl) (by kernel_rfl) (by kernel_rfl) (fun _ _ _ h => h) (Or.inl ⟨by rfl, ?_⟩) hS ?_
    rotate_left
    · (intro w hSw; have hSw := (HSd.out w).1 hSw; go_split_ands; go_simp) <;> with_reducible rfl
    clear hS
    try simp only [Act.put, List.setIfInBounds_toArray, List.set_cons_zero, List.set_cons_succ]
    refine wpAnyH_done (by kernel_rfl) ?_ _
    have bR_0 := bR.cell 0 rfl
    have bR_1 := bR.cell 1 rfl
    have bE_0 := bE.cell 0 rfl
    have bE_1 := bE.cell 1 rfl
    have bE_2 := bE.cell 2 rfl
    have bF_0 := bF.cell 0 rfl
    have bF_1 := bF.cell 1 rfl
    have bF_2 := bF.cell 2 rfl
    have hPz := bG.lt
    go_wp2
    exact bodyPost_ret (v := .tuple #[.agg #[.slice a zs.length c, .slice b ys.length d], .int .i64 x, .agg #[.int .i64 x1, .int .i64 y1, .int .i64 z1], .agg #[.int .i64 x2, .int .i64 y2, .int .i64 z2], .int .i64 n]) (by simp [results, Tryz.results13, go_sem, bR_0, bR_1, bE_0, bE_1, bE_2, bF_0, bF_1, bF_2]) rfl ⟨a, b, c, d, zs, ys, x, _, _, _, _, _, _, _, rfl, HP.out.wide (by omega) (Nat.le_refl _), HS.out, HG.out⟩
end
end Go.Proofs.YtgecbfbmmbfnmaaGreat
