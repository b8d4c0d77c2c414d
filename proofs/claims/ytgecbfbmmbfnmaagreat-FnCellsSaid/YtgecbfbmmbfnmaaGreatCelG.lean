import Derived.Test.YtgecbfbmmbfnmaaGreatCelM
import Derived.Test.YtgecbfbmmbfnmaaGreatDir
import Derived.Test.YtgecbfbmmbfnmaaGreatFanD
import Derived.Handy
import Derived.Outline
import Derived.LoopTactic
import Derived.Deep.RegionHeld3
import Derived.Deep.DeepCutAuto
import Derived.Deep.RegionWith
namespace Go.Proofs.YtgecbfbmmbfnmaaGreat
/- The contract of the model's code of a cell. -/
open Go.ChangeShapes Go.WideShapes Go.ChangeAt Go.RowKit Go.Shelf Num
set_option linter.unusedVariables false
set_option linter.unusedSimpArgs false

theorem hkB_in (zs : List Int) (x : Int) : hkB zs x = inB x 0 ((zs.length : Int) - 1) := by
  unfold hkB inB
  by_cases p1 : 0 ≤ x <;> by_cases p2 : x < (zs.length : Int)
  · have p3 : x ≤ (zs.length : Int) - 1 := by omega
    simp [p1, p2, p3]
  · have p3 : ¬ x ≤ (zs.length : Int) - 1 := by omega
    simp [p1, p2, p3]
  · simp [p1]
  · simp [p1]

set_option maxRecDepth 100000 in
set_option maxHeartbeats 4000000 in
theorem lc8_any (w : World) (a b : Option Addr) (ca cb : Nat) (zs ys : List Int) (src c s h x y z n : Int) (hp : Prof w w.heap.size a b zs ys) :
    Calls Tryz.prog 19 #[.agg #[.slice a zs.length ca, .slice b ys.length cb], .int .i64 src, .agg #[.int .i64 c, .int .i64 s, .int .i64 h], .agg #[.int .i64 x, .int .i64 y, .int .i64 z], .int .i64 n] w fun e w' => e = .returned (.int .i64 (mcT zs ys src c s h x y z n)) ∧ Below w.heap.size w w' := by
  have HP := Lib.hid hp
  have lz := hp.lz
  have e7 : IntKind.wrap .i64 ((zs.length : Int) - 1) = (zs.length : Int) - 1 := IntWalk.i64_in _ (by omega)
  obtain ⟨C, hC⟩ : ∃ u, mcT zs ys src c s h x y z n = u := ⟨_, rfl⟩
  have HT := hC
  unfold mcT at HT
  rw [hkB_in] at HT
  obtain ⟨p, hp1⟩ : ∃ u, prfB zs ys = u := ⟨_, rfl⟩
  obtain ⟨d1, hd1⟩ : ∃ u, dirB c s h = u := ⟨_, rfl⟩
  obtain ⟨d2, hd2⟩ : ∃ u, dirB x y z = u := ⟨_, rfl⟩
  obtain ⟨al, hal⟩ : ∃ u, (decide (0 < s) == decide (0 < y)) = u := ⟨_, rfl⟩
  have KP : Hid (∀ W : World, Below w.heap.size w W → Calls Tryz.prog 42 #[.agg #[.slice a zs.length ca, .slice b ys.length cb]] W fun e w' => e = .returned (.bool p) ∧ Below W.heap.size W w') := Lib.hid (fun W hb => by have := spr_any W a b ca cb zs ys (HP.out.on hb); rwa [hp1] at this)
  have K1 : Hid (∀ W : World, Calls Tryz.prog 43 #[.agg #[.int .i64 c, .int .i64 s, .int .i64 h]] W fun e w' => e = .returned (.bool d1) ∧ Below W.heap.size W w') := Lib.hid (fun W => by have := sdr_any c s h W; rwa [hd1] at this)
  have K2 : Hid (∀ W : World, Calls Tryz.prog 43 #[.agg #[.int .i64 x, .int .i64 y, .int .i64 z]] W fun e w' => e = .returned (.bool d2) ∧ Below W.heap.size W w') := Lib.hid (fun W => by have := sdr_any x y z W; rwa [hd2] at this)
  have KA : Hid (∀ W : World, Calls Tryz.prog 45 #[.agg #[.int .i64 c, .int .i64 s, .int .i64 h], .agg #[.int .i64 x, .int .i64 y, .int .i64 z]] W fun e w' => e = .returned (.bool al) ∧ Below W.heap.size W w') := Lib.hid (fun W => by have := alk_any c s h x y z W; rwa [hal] at this)
  rw [hp1, hd1, hd2, hal] at HT
  rw [hC]
  clear hC hp1 hd1 hd2 hal hp
  go_enter Tryz.func19, Tryz.ntmps19
  go_upto_region 1 with fail
  generalize hW : World.alloc _ _ = W
  have bX : Bk W (w.heap.size) #[.slice a zs.length ca, .slice b ys.length cb] 26 := by rw [← hW]; repeat (first | (refine Bk.new' ?_; (simp; done)) | refine Bk.alloc ?_ _)
  have bD : Bk W (w.heap.size + 1) #[.int .i64 c, .int .i64 s, .int .i64 h] 28 := by rw [← hW]; repeat (first | (refine Bk.new' ?_; (simp; done)) | refine Bk.alloc ?_ _)
  have bE : Bk W (w.heap.size + 1 + 1) #[.int .i64 x, .int .i64 y, .int .i64 z] 28 := by rw [← hW]; repeat (first | (refine Bk.new' ?_; (simp; done)) | refine Bk.alloc ?_ _)
  have HB : Hid (Below w.heap.size w W) := Lib.hid (by rw [← hW]; exact (by repeat (first | exact Below.refl _ _ | (refine Below.alloc ?_ (by simp <;> omega) _) | (refine Below.setCell ?_ (by simp <;> omega) _) | (refine Below.drew ?_) | (refine bel_drewN ?_ _))))
  clear hW
  have bX_0 := bX.cell 0 rfl
  have bX_1 := bX.cell 1 rfl
  have bX_l := bX.lt
  have bD_0 := bD.cell 0 rfl
  have bD_1 := bD.cell 1 rfl
  have bD_2 := bD.cell 2 rfl
  have bD_l := bD.lt
  have bE_0 := bE.cell 0 rfl
  have bE_1 := bE.cell 1 rfl
  have bE_2 := bE.cell 2 rfl
  have bE_l := bE.lt
  go_wp2_with fail
  (with_reducible refine Calls.mono (KP.out _ HB.out) ?_)
  rintro e w1 ⟨rfl, hb⟩
  clear bX_0 bX_1 bX_l
  clear bD_0 bD_1 bD_2 bD_l
  clear bE_0 bE_1 bE_2 bE_l
  replace bX := bX.on hb
  replace bD := bD.on hb
  replace bE := bE.on hb
  replace HB := Lib.hid (bel_end HB.out hb)
  clear hb
  clear KP
  cases p
  case false =>
    have HC := Lib.hid HT.symm
    simp only [Bool.and_true, Bool.true_and, Bool.and_false, Bool.false_and, Bool.and_self, if_true, if_false, Bool.false_eq_true] at HC
    clear HT
    have bX_0 := bX.cell 0 rfl
    have bX_1 := bX.cell 1 rfl
    have bX_l := bX.lt
    have bD_0 := bD.cell 0 rfl
    have bD_1 := bD.cell 1 rfl
    have bD_2 := bD.cell 2 rfl
    have bD_l := bD.lt
    have bE_0 := bE.cell 0 rfl
    have bE_1 := bE.cell 1 rfl
    have bE_2 := bE.cell 2 rfl
    have bE_l := bE.lt
    go_wp2
    go_ret
    exact ⟨by first | (rw [HC.out]; done) | (rw [HC.out]; rfl), HB.out⟩
  case true =>
    have bX_0 := bX.cell 0 rfl
    have bX_1 := bX.cell 1 rfl
    have bX_l := bX.lt
    have bD_0 := bD.cell 0 rfl
    have bD_1 := bD.cell 1 rfl
    have bD_2 := bD.cell 2 rfl
    have bD_l := bD.lt
    have bE_0 := bE.cell 0 rfl
    have bE_1 := bE.cell 1 rfl
    have bE_2 := bE.cell 2 rfl
    have bE_l := bE.lt
    go_wp2_with fail
    (with_reducible refine Calls.mono (K1.out _) ?_)
    rintro e w2 ⟨rfl, hb⟩
    clear bX_0 bX_1 bX_l
    clear bD_0 bD_1 bD_2 bD_l
    clear bE_0 bE_1 bE_2 bE_l
    replace bX := bX.on hb
    replace bD := bD.on hb
    replace bE := bE.on hb
    replace HB := Lib.hid (bel_end HB.out hb)
    clear hb
    clear K1
    cases d1
    case false =>
      have HC := Lib.hid HT.symm
      simp only [Bool.and_true, Bool.true_and, Bool.and_false, Bool.false_and, Bool.and_self, if_true, if_false, Bool.false_eq_true] at HC
      clear HT
      have bX_0 := bX.cell 0 rfl
      have bX_1 := bX.cell 1 rfl
      have bX_l := bX.lt
      have bD_0 := bD.cell 0 rfl
      have bD_1 := bD.cell 1 rfl
      have bD_2 := bD.cell 2 rfl
      have bD_l := bD.lt
      have bE_0 := bE.cell 0 rfl
      have bE_1 := bE.cell 1 rfl
      have bE_2 := bE.cell 2 rfl
      have bE_l := bE.lt
      go_wp2
      go_ret
      exact ⟨by first | (rw [HC.out]; done) | (rw [HC.out]; rfl), HB.out⟩
    case true =>
      have bX_0 := bX.cell 0 rfl
      have bX_1 := bX.cell 1 rfl
      have bX_l := bX.lt
      have bD_0 := bD.cell 0 rfl
      have bD_1 := bD.cell 1 rfl
      have bD_2 := bD.cell 2 rfl
      have bD_l := bD.lt
      have bE_0 := bE.cell 0 rfl
      have bE_1 := bE.cell 1 rfl
      have bE_2 := bE.cell 2 rfl
      have bE_l := bE.lt
      go_wp2_with fail
      (with_reducible refine Calls.mono (K2.out _) ?_)
      rintro e w3 ⟨rfl, hb⟩
      clear bX_0 bX_1 bX_l
      clear bD_0 bD_1 bD_2 bD_l
      clear bE_0 bE_1 bE_2 bE_l
      replace bX := bX.on hb
      replace bD := bD.on hb
      replace bE := bE.on hb
      replace HB := Lib.hid (bel_end HB.out hb)
      clear hb
      clear K2
      cases d2
      case false =>
        have HC := Lib.hid HT.symm
        simp only [Bool.and_true, Bool.true_and, Bool.and_false, Bool.false_and, Bool.and_self, if_true, if_false, Bool.false_eq_true] at HC
        clear HT
        have bX_0 := bX.cell 0 rfl
        have bX_1 := bX.cell 1 rfl
        have bX_l := bX.lt
        have bD_0 := bD.cell 0 rfl
        have bD_1 := bD.cell 1 rfl
        have bD_2 := bD.cell 2 rfl
        have bD_l := bD.lt
        have bE_0 := bE.cell 0 rfl
        have bE_1 := bE.cell 1 rfl
        have bE_2 := bE.cell 2 rfl
        have bE_l := bE.lt
        go_wp2
        go_ret
        exact ⟨by first | (rw [HC.out]; done) | (rw [HC.out]; rfl), HB.out⟩
      case true =>
        cases h1 : inB src 0 ((zs.length : Int) - 1)
        case false =>
          rw [h1] at HT
          have HC := Lib.hid HT.symm
          simp only [Bool.and_true, Bool.true_and, Bool.and_false, Bool.false_and, Bool.and_self, if_true, if_false, Bool.false_eq_true] at HC
          clear HT
          have bX_0 := bX.cell 0 rfl
          have bX_1 := bX.cell 1 rfl
          have bX_l := bX.lt
          have bD_0 := bD.cell 0 rfl
          have bD_1 := bD.cell 1 rfl
          have bD_2 := bD.cell 2 rfl
          have bD_l := bD.lt
          have bE_0 := bE.cell 0 rfl
          have bE_1 := bE.cell 1 rfl
          have bE_2 := bE.cell 2 rfl
          have bE_l := bE.lt
          go_wp2_with (go_at_call 44; refine (lin_any _ _ _ _).mono ?_; rintro e w' ⟨rfl, rfl⟩)
          go_ret
          exact ⟨by first | (rw [HC.out]; done) | (rw [HC.out]; rfl), HB.out⟩
        case true =>
          cases h2 : inB n 0 100
          case false =>
            rw [h1, h2] at HT
            have HC := Lib.hid HT.symm
            simp only [Bool.and_true, Bool.true_and, Bool.and_false, Bool.false_and, Bool.and_self, if_true, if_false, Bool.false_eq_true] at HC
            clear HT
            have bX_0 := bX.cell 0 rfl
            have bX_1 := bX.cell 1 rfl
            have bX_l := bX.lt
            have bD_0 := bD.cell 0 rfl
            have bD_1 := bD.cell 1 rfl
            have bD_2 := bD.cell 2 rfl
            have bD_l := bD.lt
            have bE_0 := bE.cell 0 rfl
            have bE_1 := bE.cell 1 rfl
            have bE_2 := bE.cell 2 rfl
            have bE_l := bE.lt
            go_wp2_with (go_at_call 44; refine (lin_any _ _ _ _).mono ?_; rintro e w' ⟨rfl, rfl⟩)
            go_ret
            exact ⟨by first | (rw [HC.out]; done) | (rw [HC.out]; rfl), HB.out⟩
          case true =>
            rw [h1, h2] at HT
            have bX_0 := bX.cell 0 rfl
            have bX_1 := bX.cell 1 rfl
            have bX_l := bX.lt
            have bD_0 := bD.cell 0 rfl
            have bD_1 := bD.cell 1 rfl
            have bD_2 := bD.cell 2 rfl
            have bD_l := bD.lt
            have bE_0 := bE.cell 0 rfl
            have bE_1 := bE.cell 1 rfl
            have bE_2 := bE.cell 2 rfl
            have bE_l := bE.lt
            go_wp2_with (go_at_call 44; refine (lin_any _ _ _ _).mono ?_; rintro e w' ⟨rfl, rfl⟩)
            (with_reducible refine Calls.mono (KA.out _) ?_)
            rintro e w4 ⟨rfl, hb⟩
            clear bX_0 bX_1 bX_l
            clear bD_0 bD_1 bD_2 bD_l
            clear bE_0 bE_1 bE_2 bE_l
            replace bX := bX.on hb
            replace bD := bD.on hb
            replace bE := bE.on hb
            replace HB := Lib.hid (bel_end HB.out hb)
            clear hb
            clear KA
            cases al
            case false =>
              have HC := Lib.hid HT.symm
              simp only [Bool.and_true, Bool.true_and, Bool.and_false, Bool.false_and, Bool.and_self, if_true, if_false, Bool.false_eq_true] at HC
              clear HT
              have bX_0 := bX.cell 0 rfl
              have bX_1 := bX.cell 1 rfl
              have bX_l := bX.lt
              have bD_0 := bD.cell 0 rfl
              have bD_1 := bD.cell 1 rfl
              have bD_2 := bD.cell 2 rfl
              have bD_l := bD.lt
              have bE_0 := bE.cell 0 rfl
              have bE_1 := bE.cell 1 rfl
              have bE_2 := bE.cell 2 rfl
              have bE_l := bE.lt
              go_wp2
              go_ret
              exact ⟨by first | (rw [HC.out]; done) | (rw [HC.out]; rfl), HB.out⟩
            case true =>
              have HC := Lib.hid HT.symm
              simp only [Bool.and_true, Bool.true_and, Bool.and_false, Bool.false_and, Bool.and_self, if_true, if_false, Bool.false_eq_true] at HC
              clear HT
              have bX_0 := bX.cell 0 rfl
              have bX_1 := bX.cell 1 rfl
              have bX_l := bX.lt
              have bD_0 := bD.cell 0 rfl
              have bD_1 := bD.cell 1 rfl
              have bD_2 := bD.cell 2 rfl
              have bD_l := bD.lt
              have bE_0 := bE.cell 0 rfl
              have bE_1 := bE.cell 1 rfl
              have bE_2 := bE.cell 2 rfl
              have bE_l := bE.lt
              go_wp2
              go_ret
              exact ⟨by first | (rw [HC.out]; done) | (rw [HC.out]; rfl), HB.out⟩
end Go.Proofs.YtgecbfbmmbfnmaaGreat
