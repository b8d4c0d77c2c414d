/- Contracts of PulseOfBits, the program's and the model's. -/
import Derived.Test.YtpnebnjpeiieaaaPuP
namespace Go.Proofs.Ytpnebnjpeiieaaa
open Go.ChangeShapes Go.WideShapes Go.ChangeAt Go.RowKit Go.Shelf Num
set_option linter.unusedVariables false
set_option linter.unusedSimpArgs false

set_option maxRecDepth 100000 in
set_option maxHeartbeats 4000000 in
theorem ipb_any (w : World) (a : Option Addr) (cap : Nat) (bs : List Int) (wd am : Int) (hl : bs.length ≤ 9223372036854775807) (hz : Ints .i64 w w.heap.size a bs) :
    Calls Try.prog 27 #[.slice a bs.length cap, .int .i64 wd, .int .i64 am] w fun e w' => ∃ (a' : Option Addr) (c' : Nat), e = .returned (.tuple #[.slice a' (plL bs wd am).length c', .int .i64 (plC bs wd am)]) ∧ OwnA w' w.heap.size w'.heap.size a' c' (plL bs wd am) ∧ Below w.heap.size w w' := by
  have HZ := Lib.hid hz
  clear hz
  by_cases h4 : bs.length ≤ 400
  case neg =>
    have H1 : Hid (plC bs wd am = 2) := Lib.hid (by unfold plC; rw [decide_eq_false h4]; rfl)
    have H2 : Hid (plL bs wd am = []) := Lib.hid (by unfold plL; rw [H1.out]; rfl)
    go_enter Try.func27, Try.ntmps27
    go_wp2
    go_ret2
    exact ⟨none, 0, by rw [H1.out, H2.out]; rfl, by rw [H2.out]; exact ownA_nil _ _ (by simp), (by repeat (first | exact Below.refl _ _ | (refine Below.alloc ?_ (by simp <;> omega) _) | (refine Below.setCell ?_ (by simp <;> omega) _) | (refine Below.drew ?_) | (refine bel_drewN ?_ _)))⟩
  case pos =>
    obtain ⟨W, hW⟩ : ∃ W, W = w.alloc (.cells #[.int .i64 0, .int .i64 1] 52) := ⟨_, rfl⟩
    have hb : Below w.heap.size w W := by rw [hW]; exact (by repeat (first | exact Below.refl _ _ | (refine Below.alloc ?_ (by simp <;> omega) _) | (refine Below.setCell ?_ (by simp <;> omega) _) | (refine Below.drew ?_) | (refine bel_drewN ?_ _)))
    have K1 := Lib.hid (are_any W a cap _ bs 0 1 rfl hl ((HZ.out.below hb).more hb.size))
    have HB := Lib.hid hb
    clear hb
    cases hA : anyLack 0 1 bs
    case true =>
      have H1 : Hid (plC bs wd am = 2) := Lib.hid (by unfold plC; rw [hA]; simp)
      have H2 : Hid (plL bs wd am = []) := Lib.hid (by unfold plL; rw [H1.out]; rfl)
      go_enter Try.func27, Try.ntmps27
      go_wp2_with fail
      rw [← hW]
      clear hW
      refine K1.out.mono ?_
      rw [hA]
      rintro e w1 ⟨rfl, hb⟩
      have HZ1 := Lib.hid (fun (W : World) (hb : Below w.heap.size w W) => (HZ.out.below hb).more hb.size)
      replace HB := Lib.hid (bel_end HB.out hb)
      clear hb
      go_wp2
      go_ret2
      exact ⟨none, 0, by rw [H1.out, H2.out]; rfl, by rw [H2.out]; exact ownA_nil _ _ (HB.out).size, HB.out⟩
    case false =>
      have K2 := Lib.hid (fun (W : World) => are1_any W wd 1 400)
      have K3 := Lib.hid (fun (W : World) => are1_any W am 1 1000)
      cases hM : hasB 1 400 wd
      case false =>
        have H1 : Hid (plC bs wd am = 2) := Lib.hid (by unfold plC; rw [hM]; simp)
        have H2 : Hid (plL bs wd am = []) := Lib.hid (by unfold plL; rw [H1.out]; rfl)
        go_enter Try.func27, Try.ntmps27
        go_wp2_with fail
        rw [← hW]
        clear hW
        refine K1.out.mono ?_
        rw [hA]
        rintro e w1 ⟨rfl, hb⟩
        have HZ1 := Lib.hid (fun (W : World) (hb : Below w.heap.size w W) => (HZ.out.below hb).more hb.size)
        replace HB := Lib.hid (bel_end HB.out hb)
        clear hb
        go_upto_region 5 with fail
        generalize hW : World.alloc _ _ = W2
        have bX : Bk W2 w1.heap.size #[.int .i64 1, .int .i64 400] 52 := by rw [← hW]; repeat (first | (refine Bk.new' ?_; (simp; done)) | refine Bk.alloc ?_ _)
        have bY : Bk W2 (w1.heap.size + 1) #[.int .i64 1, .int .i64 1000] 52 := by rw [← hW]; repeat (first | (refine Bk.new' ?_; (simp; done)) | refine Bk.alloc ?_ _)
        have hb : Below w1.heap.size w1 W2 := by rw [← hW]; exact (by repeat (first | exact Below.refl _ _ | (refine Below.alloc ?_ (by simp <;> omega) _) | (refine Below.setCell ?_ (by simp <;> omega) _) | (refine Below.drew ?_) | (refine bel_drewN ?_ _)))
        replace HB := Lib.hid (bel_end HB.out hb)
        clear hW hb
        have bX_0 := bX.cell 0 rfl
        have bX_1 := bX.cell 1 rfl
        go_wp2_with fail
        refine (K2.out _).mono ?_
        rw [hM]
        rintro e w3 ⟨rfl, hb⟩
        clear bX_0 bX_1
        replace bY := bY.on hb
        replace HB := Lib.hid (bel_end HB.out hb)
        clear hb bX
        go_wp2
        go_ret2
        exact ⟨none, 0, by rw [H1.out, H2.out]; rfl, by rw [H2.out]; exact ownA_nil _ _ (HB.out).size, HB.out⟩
      case true =>
        cases hN : hasB 1 1000 am
        case false =>
          have H1 : Hid (plC bs wd am = 2) := Lib.hid (by unfold plC; rw [hN]; simp)
          have H2 : Hid (plL bs wd am = []) := Lib.hid (by unfold plL; rw [H1.out]; rfl)
          go_enter Try.func27, Try.ntmps27
          go_wp2_with fail
          rw [← hW]
          clear hW
          refine K1.out.mono ?_
          rw [hA]
          rintro e w1 ⟨rfl, hb⟩
          have HZ1 := Lib.hid (fun (W : World) (hb : Below w.heap.size w W) => (HZ.out.below hb).more hb.size)
          replace HB := Lib.hid (bel_end HB.out hb)
          clear hb
          go_upto_region 5 with fail
          generalize hW : World.alloc _ _ = W2
          have bX : Bk W2 w1.heap.size #[.int .i64 1, .int .i64 400] 52 := by rw [← hW]; repeat (first | (refine Bk.new' ?_; (simp; done)) | refine Bk.alloc ?_ _)
          have bY : Bk W2 (w1.heap.size + 1) #[.int .i64 1, .int .i64 1000] 52 := by rw [← hW]; repeat (first | (refine Bk.new' ?_; (simp; done)) | refine Bk.alloc ?_ _)
          have hb : Below w1.heap.size w1 W2 := by rw [← hW]; exact (by repeat (first | exact Below.refl _ _ | (refine Below.alloc ?_ (by simp <;> omega) _) | (refine Below.setCell ?_ (by simp <;> omega) _) | (refine Below.drew ?_) | (refine bel_drewN ?_ _)))
          replace HB := Lib.hid (bel_end HB.out hb)
          clear hW hb
          have bX_0 := bX.cell 0 rfl
          have bX_1 := bX.cell 1 rfl
          go_wp2_with fail
          refine (K2.out _).mono ?_
          rw [hM]
          rintro e w3 ⟨rfl, hb⟩
          clear bX_0 bX_1
          replace bY := bY.on hb
          replace HB := Lib.hid (bel_end HB.out hb)
          clear hb bX
          have bY_0 := bY.cell 0 rfl
          have bY_1 := bY.cell 1 rfl
          go_wp2_with fail
          refine (K3.out _).mono ?_
          rw [hN]
          rintro e w4 ⟨rfl, hb⟩
          clear bY_0 bY_1
          replace HB := Lib.hid (bel_end HB.out hb)
          clear hb bY
          go_wp2
          go_ret2
          exact ⟨none, 0, by rw [H1.out, H2.out]; rfl, by rw [H2.out]; exact ownA_nil _ _ (HB.out).size, HB.out⟩
        case true =>
          have hM2 := hM
          have hN2 := hN
          unfold hasB at hM2 hN2
          simp only [Bool.and_eq_true, decide_eq_true_eq] at hM2 hN2
          obtain ⟨w0, w4⟩ := hM2
          obtain ⟨a0, a4⟩ := hN2
          obtain ⟨wn, rfl⟩ : ∃ wn : Nat, wd = (wn : Int) := ⟨wd.toNat, by omega⟩
          obtain ⟨P, hPe⟩ : ∃ P : Nat, bs.length * wn = P := ⟨_, rfl⟩
          have hPi : (bs.length : Int) * (wn : Int) = (P : Int) := by rw [← hPe, Int.natCast_mul]
          have hP6 : P ≤ 160000 := by rw [← hPe]; exact Nat.mul_le_mul (show bs.length ≤ 400 from h4) (show wn ≤ 400 by omega)
          have hPw : IntKind.wrap .i64 (P : Int) = (P : Int) := IntWalk.i64_in _ (by omega)
          have HC : plC bs (wn : Int) am = if 400 < (P : Int) then 3 else 0 := by unfold plC; rw [decide_eq_true h4, hA, hM, hN, hPi]; rfl
          by_cases h5 : 400 < (P : Int)
          case pos =>
            have H1 : Hid (plC bs (wn : Int) am = 3) := Lib.hid (by rw [HC, if_pos h5])
            have H2 : Hid (plL bs (wn : Int) am = []) := Lib.hid (by unfold plL; rw [H1.out]; rfl)
            clear HC hPe
            go_enter Try.func27, Try.ntmps27
            go_wp2_with fail
            rw [← hW]
            clear hW
            refine K1.out.mono ?_
            rw [hA]
            rintro e w1 ⟨rfl, hb⟩
            have HZ1 := Lib.hid (fun (W : World) (hb : Below w.heap.size w W) => (HZ.out.below hb).more hb.size)
            replace HB := Lib.hid (bel_end HB.out hb)
            clear hb
            go_upto_region 5 with fail
            generalize hW : World.alloc _ _ = W2
            have bX : Bk W2 w1.heap.size #[.int .i64 1, .int .i64 400] 52 := by rw [← hW]; repeat (first | (refine Bk.new' ?_; (simp; done)) | refine Bk.alloc ?_ _)
            have bY : Bk W2 (w1.heap.size + 1) #[.int .i64 1, .int .i64 1000] 52 := by rw [← hW]; repeat (first | (refine Bk.new' ?_; (simp; done)) | refine Bk.alloc ?_ _)
            have hb : Below w1.heap.size w1 W2 := by rw [← hW]; exact (by repeat (first | exact Below.refl _ _ | (refine Below.alloc ?_ (by simp <;> omega) _) | (refine Below.setCell ?_ (by simp <;> omega) _) | (refine Below.drew ?_) | (refine bel_drewN ?_ _)))
            replace HB := Lib.hid (bel_end HB.out hb)
            clear hW hb
            have bX_0 := bX.cell 0 rfl
            have bX_1 := bX.cell 1 rfl
            go_wp2_with fail
            refine (K2.out _).mono ?_
            rw [hM]
            rintro e w3 ⟨rfl, hb⟩
            clear bX_0 bX_1
            replace bY := bY.on hb
            replace HB := Lib.hid (bel_end HB.out hb)
            clear hb bX
            have bY_0 := bY.cell 0 rfl
            have bY_1 := bY.cell 1 rfl
            go_wp2_with fail
            refine (K3.out _).mono ?_
            rw [hN]
            rintro e w4 ⟨rfl, hb⟩
            clear bY_0 bY_1
            replace HB := Lib.hid (bel_end HB.out hb)
            clear hb bY
            go_wp2
            go_ret2
            exact ⟨none, 0, by rw [H1.out, H2.out]; rfl, by rw [H2.out]; exact ownA_nil _ _ (HB.out).size, HB.out⟩
          case neg =>
            have H1 : Hid (plC bs (wn : Int) am = 0) := Lib.hid (by rw [HC, if_neg h5])
            have H2 : Hid (plL bs (wn : Int) am = pulK bs wn am bs.length) := Lib.hid (by unfold plL; rw [H1.out, Int.toNat_natCast]; rfl)
            have hbit := bitL_of hA
            have K4 := Lib.hid (fun (W : World) (hz : Ints .i64 W W.heap.size a bs) => ipo_any W a cap bs wn am (by omega) h4 (by omega) a0 a4 hbit hz)
            have HPE := Lib.hid hPe
            clear HC hPe hbit
            go_enter Try.func27, Try.ntmps27
            go_wp2_with fail
            rw [← hW]
            clear hW
            refine K1.out.mono ?_
            rw [hA]
            rintro e w1 ⟨rfl, hb⟩
            have HZ1 := Lib.hid (fun (W : World) (hb : Below w.heap.size w W) => (HZ.out.below hb).more hb.size)
            replace HB := Lib.hid (bel_end HB.out hb)
            clear hb
            go_upto_region 5 with fail
            generalize hW : World.alloc _ _ = W2
            have bX : Bk W2 w1.heap.size #[.int .i64 1, .int .i64 400] 52 := by rw [← hW]; repeat (first | (refine Bk.new' ?_; (simp; done)) | refine Bk.alloc ?_ _)
            have bY : Bk W2 (w1.heap.size + 1) #[.int .i64 1, .int .i64 1000] 52 := by rw [← hW]; repeat (first | (refine Bk.new' ?_; (simp; done)) | refine Bk.alloc ?_ _)
            have hb : Below w1.heap.size w1 W2 := by rw [← hW]; exact (by repeat (first | exact Below.refl _ _ | (refine Below.alloc ?_ (by simp <;> omega) _) | (refine Below.setCell ?_ (by simp <;> omega) _) | (refine Below.drew ?_) | (refine bel_drewN ?_ _)))
            replace HB := Lib.hid (bel_end HB.out hb)
            clear hW hb
            have bX_0 := bX.cell 0 rfl
            have bX_1 := bX.cell 1 rfl
            go_wp2_with fail
            refine (K2.out _).mono ?_
            rw [hM]
            rintro e w3 ⟨rfl, hb⟩
            clear bX_0 bX_1
            replace bY := bY.on hb
            replace HB := Lib.hid (bel_end HB.out hb)
            clear hb bX
            have bY_0 := bY.cell 0 rfl
            have bY_1 := bY.cell 1 rfl
            go_wp2_with fail
            refine (K3.out _).mono ?_
            rw [hN]
            rintro e w4 ⟨rfl, hb⟩
            clear bY_0 bY_1
            replace HB := Lib.hid (bel_end HB.out hb)
            clear hb bY
            go_wp2_with fail
            refine (K4.out _ (HZ1.out _ HB.out)).mono ?_
            rintro e w5 ⟨g, c', rfl, hs, hb⟩
            have HS := Lib.hid (hs.less HB.out.size)
            replace HB := Lib.hid (bel_end HB.out hb)
            clear hs hb hPi hPw
            go_wp2
            go_ret2
            exact ⟨some ⟨g, 0, none⟩, c', by rw [H1.out, H2.out, pulK_len _ _ (Nat.le_refl _)]; rfl, by rw [H2.out]; exact HS.out, HB.out⟩

set_option maxRecDepth 100000 in
set_option maxHeartbeats 4000000 in
theorem spb_any (w : World) (a : Option Addr) (cap : Nat) (bs : List Int) (wd am : Int) (hl : bs.length ≤ 9223372036854775807) (hz : Ints .i64 w w.heap.size a bs) :
    Calls Try.prog 28 #[.slice a bs.length cap, .int .i64 wd, .int .i64 am] w fun e w' => ∃ (a' : Option Addr) (c' : Nat), e = .returned (.tuple #[.slice a' (plL bs wd am).length c', .int .i64 (plC bs wd am)]) ∧ OwnA w' w.heap.size w'.heap.size a' c' (plL bs wd am) ∧ Below w.heap.size w w' := by
  have HZ := Lib.hid hz
  clear hz
  have eM := hasB_inB wd 1 400
  have eN := hasB_inB am 1 1000
  cases hA : withB bs 400 0 1 <;> cases hM : inB wd 1 400 <;> cases hN : inB am 1 1000
  case true.true.true =>
    have hA2 := hA
    unfold withB at hA2
    rw [hM] at eM
    rw [hN] at eN
    simp only [Bool.and_eq_true, decide_eq_true_eq, Bool.not_eq_true'] at hA2
    obtain ⟨hA3, h4⟩ := hA2
    replace h4 : bs.length ≤ 400 := by omega
    obtain ⟨w0, w4⟩ := inB_t hM
    obtain ⟨a0, a4⟩ := inB_t hN
    obtain ⟨wn, rfl⟩ : ∃ wn : Nat, wd = (wn : Int) := ⟨wd.toNat, by omega⟩
    obtain ⟨P, hPe⟩ : ∃ P : Nat, bs.length * wn = P := ⟨_, rfl⟩
    have hPi : (bs.length : Int) * (wn : Int) = (P : Int) := by rw [← hPe, Int.natCast_mul]
    have hP6 : P ≤ 160000 := by rw [← hPe]; exact Nat.mul_le_mul (show bs.length ≤ 400 from h4) (show wn ≤ 400 by omega)
    have hPw : IntKind.wrap .i64 (P : Int) = (P : Int) := IntWalk.i64_in _ (by omega)
    have HC : plC bs (wn : Int) am = if 400 < (P : Int) then 3 else 0 := by unfold plC; rw [decide_eq_true h4, hA3, eM, eN, hPi]; rfl
    by_cases h5 : 400 < (P : Int)
    case pos =>
      have H1 : Hid (plC bs (wn : Int) am = 3) := Lib.hid (by rw [HC, if_pos h5])
      have H2 : Hid (plL bs (wn : Int) am = []) := Lib.hid (by unfold plL; rw [H1.out]; rfl)
      clear HC hPe eM eN
      go_enter Try.func28, Try.ntmps28
      go_wp2_with (first | (go_at_call 54; (with_reducible refine Calls.mono (wth_any _ _ _ _ bs 400 0 1 hl HZ.out) ?_); rw [hA]; rintro e w' ⟨rfl, rfl⟩) | (go_at_call 55; (with_reducible refine Calls.mono (lin_any (wn : Int) 1 400 _) ?_); rw [hM]; rintro e w' ⟨rfl, rfl⟩) | (go_at_call 55; (with_reducible refine Calls.mono (lin_any am 1 1000 _) ?_); rw [hN]; rintro e w' ⟨rfl, rfl⟩))
      go_ret2
      exact ⟨none, 0, by rw [H1.out, H2.out]; rfl, by rw [H2.out]; exact ownA_nil _ _ (Nat.le_refl _), Below.refl _ _⟩
    case neg =>
      have H1 : Hid (plC bs (wn : Int) am = 0) := Lib.hid (by rw [HC, if_neg h5])
      have H2 : Hid (plL bs (wn : Int) am = pulK bs wn am bs.length) := Lib.hid (by unfold plL; rw [H1.out, Int.toNat_natCast]; rfl)
      have hbit := bitL_of hA3
      have K4 := Lib.hid (fun (W : World) (hz : Ints .i64 W W.heap.size a bs) => l9p_any W a cap bs wn am (by omega) h4 (by omega) a0 a4 hbit hz)
      have HPE := Lib.hid hPe
      clear HC hPe hbit eM eN
      go_enter Try.func28, Try.ntmps28
      go_wp2_with (first | (go_at_call 54; (with_reducible refine Calls.mono (wth_any _ _ _ _ bs 400 0 1 hl HZ.out) ?_); rw [hA]; rintro e w' ⟨rfl, rfl⟩) | (go_at_call 55; (with_reducible refine Calls.mono (lin_any (wn : Int) 1 400 _) ?_); rw [hM]; rintro e w' ⟨rfl, rfl⟩) | (go_at_call 55; (with_reducible refine Calls.mono (lin_any am 1 1000 _) ?_); rw [hN]; rintro e w' ⟨rfl, rfl⟩))
      refine (K4.out _ HZ.out).mono ?_
      rintro e w5 ⟨g, c', rfl, hs, hb⟩
      have HS := Lib.hid hs
      have HB := Lib.hid hb
      clear hs hb hPi hPw
      go_wp2
      go_ret2
      exact ⟨some ⟨g, 0, none⟩, c', by rw [H1.out, H2.out, pulK_len _ _ (Nat.le_refl _)]; rfl, by rw [H2.out]; exact HS.out, HB.out⟩
  all_goals
    have hA2 := hA
    unfold withB at hA2
    rw [hM] at eM
    rw [hN] at eN
    have H1 : Hid (plC bs wd am = 2) := Lib.hid (by
      have hA4 : (decide (bs.length ≤ 400) && !anyLack 0 1 bs) = withB bs 400 0 1 := by unfold withB; rw [Bool.and_comm]; congr 1; rw [Bool.eq_iff_iff]; simp; omega
      unfold plC; rw [hA4, hA, eM, eN]; rfl)
    have H2 : Hid (plL bs wd am = []) := Lib.hid (by unfold plL; rw [H1.out]; rfl)
    clear hA2 eM eN
    go_enter Try.func28, Try.ntmps28
    go_wp2_with (first | (go_at_call 54; (with_reducible refine Calls.mono (wth_any _ _ _ _ bs 400 0 1 hl HZ.out) ?_); rw [hA]; rintro e w' ⟨rfl, rfl⟩) | (go_at_call 55; (with_reducible refine Calls.mono (lin_any wd 1 400 _) ?_); rw [hM]; rintro e w' ⟨rfl, rfl⟩) | (go_at_call 55; (with_reducible refine Calls.mono (lin_any am 1 1000 _) ?_); rw [hN]; rintro e w' ⟨rfl, rfl⟩))
    go_ret2
    exact ⟨none, 0, by rw [H1.out, H2.out]; rfl, by rw [H2.out]; exact ownA_nil _ _ (Nat.le_refl _), Below.refl _ _⟩
end Go.Proofs.Ytpnebnjpeiieaaa
