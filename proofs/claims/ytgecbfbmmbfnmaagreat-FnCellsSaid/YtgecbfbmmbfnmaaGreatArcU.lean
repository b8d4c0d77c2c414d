import Derived.Test.YtgecbfbmmbfnmaaGreatArcR
import Derived.Test.YtgecbfbmmbfnmaaGreatRayS
import Derived.Test.YtgecbfbmmbfnmaaGreatArc2
import Derived.StillTailTactics
import Derived.Deep.QuietTactic
import Derived.BigQuiet
namespace Go.Proofs.YtgecbfbmmbfnmaaGreat
section
/- Contracts of the model's helpers on arcs. -/
open Go.ChangeShapes Go.WideShapes Go.ChangeAt Go.RowKit Go.Shelf Num
set_option linter.unusedVariables false
theorem anr_lt {l n : Nat} {ab : Bool} (h : l + 1 < n) : anr l ab < n := by cases ab <;> simp [anr] <;> omega
theorem afr_lt {l n : Nat} {ab : Bool} (h : l + 1 < n) : afr l ab < n := by cases ab <;> simp [afr] <;> omega

theorem les_any (l : Nat) (ab : Bool) (hl : l ≤ 1000) (w : World) :
    Calls Tryz.prog 68 #[.int .i64 (l : Int), .bool ab] w fun e w' => e = .returned (.tuple #[.int .i64 (anr l ab : Int), .int .i64 (afr l ab : Int)]) ∧ w = w' := by
  have e1 : IntKind.wrap .i64 ((l : Int) + 1) = (l : Int) + 1 := IntWalk.i64_in _ (by omega)
  cases ab
  all_goals
    go_enter Tryz.func68, Tryz.ntmps68
    go_wp2
    go_ret2
    exact ⟨ret_int2 (by simp [anr]) (by simp [afr]), rfl⟩

set_option maxHeartbeats 1000000 in
theorem llm_any (a b : Int) (w : World) :
    Calls Tryz.prog 48 #[.int .i64 a, .int .i64 b] w fun e w' => e = .returned (.tuple #[.agg #[.int .i64 (lim a b).1, .int .i64 (lim a b).2.1], .int .i64 (lim a b).2.2]) ∧ Below w.heap.size w w' := by
  cases ha : valB a <;> cases hb : valB b
  case true.true =>
    go_enter Tryz.func48, Tryz.ntmps48
    go_wp2_with (go_at_call 69; refine (isl_any _ _).mono ?_; rintro e w' ⟨rfl, rfl⟩)
    exact bodyPost_ret (v := .tuple #[.agg #[.int .i64 a, .int .i64 b], .int .i64 0]) (by simp [results, Tryz.results48, go_sem]) rfl ⟨resT_of (by unfold lim; rw [ha, hb]; rfl), (by repeat (first | exact Below.refl _ _ | (refine Below.alloc ?_ (by simp <;> omega) _) | (refine Below.setCell ?_ (by simp <;> omega) _) | (refine Below.drew ?_) | (refine bel_drewN ?_ _)))⟩
  all_goals
    go_enter Tryz.func48, Tryz.ntmps48
    go_wp2_with (go_at_call 69; refine (isl_any _ _).mono ?_; rintro e w' ⟨rfl, rfl⟩)
    exact bodyPost_ret (v := .tuple #[.agg #[.int .i64 0, .int .i64 0], .int .i64 3]) (by simp [results, Tryz.results48, go_sem]) rfl ⟨resT_of (by unfold lim; rw [ha, hb]; rfl), (by repeat (first | exact Below.refl _ _ | (refine Below.alloc ?_ (by simp <;> omega) _) | (refine Below.setCell ?_ (by simp <;> omega) _) | (refine Below.drew ?_) | (refine bel_drewN ?_ _)))⟩

set_option maxRecDepth 100000 in
set_option maxHeartbeats 2000000 in
theorem l6v_any (w : World) (a b : Option Addr) (ca cb : Nat) (zs ys : List Int) (i l : Nat) (c s h : Int) (ab : Bool) (hp : Prof w w.heap.size a b zs ys) (r : RyOk zs ys i c s h) (hl : l + 1 < zs.length) :
    Calls Tryz.prog 75 #[.agg #[.slice a zs.length ca, .slice b ys.length cb], .int .i64 (i : Int), .agg #[.int .i64 c, .int .i64 s, .int .i64 h], .int .i64 (l : Int), .bool ab] w fun e w' => e = .returned (.int .i64 (vdV ys i c h (anr l ab) (afr l ab))) ∧ Below w.heap.size w w' := by
  have HP := Lib.hid hp
  have h12 := r.ok.n12
  have K0 : Hid (∀ w : World, Calls Tryz.prog 68 #[.int .i64 (l : Int), .bool ab] w fun e w' => e = .returned (.tuple #[.int .i64 (anr l ab : Int), .int .i64 (afr l ab : Int)]) ∧ w = w') := Lib.hid (fun w => les_any l ab (by omega) w)
  have SQ : ∀ k : Nat, k < zs.length → ∃ N : Int, crB ys (i : Int) c h (k : Int) = decide (0 < N) ∧ ∀ W : World, Below w.heap.size w W → Calls Tryz.prog 82 #[.agg #[.slice a zs.length ca, .slice b ys.length cb], .int .i64 (i : Int), .agg #[.int .i64 c, .int .i64 s, .int .i64 h], .int .i64 (k : Int)] W fun e w' => e = .returned (.int .i64 N) ∧ Below W.heap.size W w' := by
    intro k hk
    refine ⟨(h * ys.getD i 0 - c * ys.getD k 0) * (h * ys.getD i 0 + c * ys.getD k 0), ?_, fun W hb => lsq_any W a b ca cb zs ys i k c s h (HP.out.on hb) r.ok r.hi hk r.od⟩
    have := sq_pos r.A.1 (r.B k).1
    unfold crB
    rw [rA_nat, rB_nat, Bool.eq_iff_iff, decide_eq_true_eq, decide_eq_true_eq]
    exact this.symm
  obtain ⟨N, hN, kN⟩ := SQ (anr l ab) (anr_lt hl)
  obtain ⟨M, hM, kM⟩ := SQ (afr l ab) (afr_lt hl)
  have HT : Hid (vdV ys i c h (anr l ab) (afr l ab) = if decide (0 < N) then (if decide (0 < M) then 1 else 2) else 0) := Lib.hid (by unfold vdV; rw [hN, hM])
  have KN := Lib.hid kN
  have KM := Lib.hid kM
  clear SQ hN hM kN kM hp r hl h12
  obtain ⟨n, hn⟩ : ∃ n, anr l ab = n := ⟨_, rfl⟩
  obtain ⟨f, hf⟩ : ∃ n, afr l ab = n := ⟨_, rfl⟩
  rw [hn, hf] at K0 HT
  rw [hn] at KN
  rw [hf] at KM
  rw [hn, hf]
  clear hn hf
  by_cases g1 : 0 < N
  · by_cases g2 : 0 < M
    all_goals
      have HV := Lib.hid HT.out
      rw [decide_eq_true g1] at HV
      first | rw [decide_eq_true g2] at HV | rw [decide_eq_false g2] at HV
      clear HT
      go_enter Tryz.func75, Tryz.ntmps75
      go_wp2_with (go_at_call 68; (with_reducible refine Calls.mono (K0.out _) ?_); rintro e w' ⟨rfl, hw⟩; subst hw)
      generalize hW : World.alloc _ _ = W
      have bD : Bk W (w.heap.size + 1) #[.int .i64 c, .int .i64 s, .int .i64 h] 28 := by rw [← hW]; repeat (first | exact Bk.new' (by simp) | refine Bk.alloc ?_ _)
      have bP : Bk W (w.heap.size) #[.slice a zs.length ca, .slice b ys.length cb] 26 := by rw [← hW]; repeat (first | exact Bk.new' (by simp) | refine Bk.alloc ?_ _)
      have HB : Hid (Below w.heap.size w W) := Lib.hid (by rw [← hW]; exact (by repeat (first | exact Below.refl _ _ | (refine Below.alloc ?_ (by simp <;> omega) _) | (refine Below.setCell ?_ (by simp <;> omega) _) | (refine Below.drew ?_) | (refine bel_drewN ?_ _))))
      clear hW
      (with_reducible refine Calls.mono (KN.out _ HB.out) ?_)
      rintro e w1 ⟨rfl, hb⟩
      replace bP := bP.on hb
      replace bD := bD.on hb
      replace HB := Lib.hid (bel_end HB.out hb)
      clear hb
      have p0 := bP.cell 0 rfl
      have p1 := bP.cell 1 rfl
      have pl := bP.lt
      have d0 := bD.cell 0 rfl
      have d1 := bD.cell 1 rfl
      have d2 := bD.cell 2 rfl
      have dl := bD.lt
      go_wp2_with fail
      (with_reducible refine Calls.mono (KM.out _ HB.out) ?_)
      rintro e w2 ⟨rfl, hb⟩
      go_wp2
      go_ret
      exact ⟨ret_int HV.out.symm, bel_end HB.out hb⟩
  · have HV := Lib.hid HT.out
    rw [decide_eq_false g1] at HV
    clear HT
    go_enter Tryz.func75, Tryz.ntmps75
    go_wp2_with (go_at_call 68; (with_reducible refine Calls.mono (K0.out _) ?_); rintro e w' ⟨rfl, hw⟩; subst hw)
    generalize hW : World.alloc _ _ = W
    have HB : Hid (Below w.heap.size w W) := Lib.hid (by rw [← hW]; exact (by repeat (first | exact Below.refl _ _ | (refine Below.alloc ?_ (by simp <;> omega) _) | (refine Below.setCell ?_ (by simp <;> omega) _) | (refine Below.drew ?_) | (refine bel_drewN ?_ _))))
    clear hW
    (with_reducible refine Calls.mono (KN.out _ HB.out) ?_)
    rintro e w1 ⟨rfl, hb⟩
    go_wp2
    go_ret
    exact ⟨ret_int HV.out.symm, bel_end HB.out hb⟩
end
section
/- Contracts of arcIn, LayerVerdict, TurnDepth and ArcRadius, the program's. -/
open Go.ChangeShapes Go.WideShapes Go.ChangeAt Go.RowKit Go.Shelf Num
set_option linter.unusedVariables false
end
section
/- Contracts of TurnDepth and ArcRadius, the model's. -/
open Go.ChangeShapes Go.WideShapes Go.ChangeAt Go.RowKit Go.Shelf Num
set_option linter.unusedVariables false
/-- the two lists of a profile in memory, six elements of them -/
theorem six_at {w : World} {a b : Option Addr} {zs ys : List Int} (hp : Prof w w.heap.size a b zs ys) {k1 k2 k3 l1 l2 l3 : Nat} (h1 : k1 < zs.length) (h2 : k2 < zs.length) (h3 : k3 < zs.length) (g1 : l1 < ys.length) (g2 : l2 < ys.length) (g3 : l3 < ys.length) :
    ∃ p o p' o', a = some ⟨p, o, none⟩ ∧ b = some ⟨p', o', none⟩ ∧ p < w.heap.size ∧ p' < w.heap.size ∧ w.cell? ⟨p, o + k1, none⟩ = some (.int .i64 (zs.getD k1 0)) ∧ w.cell? ⟨p, o + k2, none⟩ = some (.int .i64 (zs.getD k2 0)) ∧ w.cell? ⟨p, o + k3, none⟩ = some (.int .i64 (zs.getD k3 0)) ∧
      w.cell? ⟨p', o' + l1, none⟩ = some (.int .i64 (ys.getD l1 0)) ∧ w.cell? ⟨p', o' + l2, none⟩ = some (.int .i64 (ys.getD l2 0)) ∧ w.cell? ⟨p', o' + l3, none⟩ = some (.int .i64 (ys.getD l3 0)) := by
  obtain ⟨p, o, e1, hlp, a1⟩ := hp.dz (by omega)
  obtain ⟨p', o', e2, hlq, a2⟩ := hp.sy (by omega)
  exact ⟨p, o, p', o', e1, e2, hlp, hlq, a1 k1 h1, a1 k2 h2, a1 k3 h3, a2 l1 g1, a2 l2 g2, a2 l3 g3⟩
end
end Go.Proofs.YtgecbfbmmbfnmaaGreat
