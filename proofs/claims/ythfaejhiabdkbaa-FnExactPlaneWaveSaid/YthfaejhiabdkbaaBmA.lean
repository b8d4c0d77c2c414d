/- Contracts of arrays of receivers: the program's and the model's IsArray, rates and speeds, codes; exact delays. -/
import Derived.Test.YthfaejhiabdkbaaBmM
import Derived.Test.YthfaejhiabdkbaaDirI
import Derived.Test.YthfaejhiabdkbaaDirS
import Derived.Test.YthfaejhiabdkbaaPuA
namespace Go.Proofs.Ythfaejhiabdkbaa
open Go.ChangeShapes Go.WideShapes Go.ChangeAt Go.RowKit Num
set_option linter.unusedVariables false
set_option linter.unusedSimpArgs false
set_option maxHeartbeats 1000000 in
theorem iar_any (w : World) (B : Nat) (a : Option Addr) (cap : Nat) (zs : List Int) (hl : zs.length ≤ 9223372036854775807) (hz : Ints .i64 w B a zs) :
    Calls Try.prog 11 #[.slice a zs.length cap] w fun e w' => e = .returned (.bool (arrB zs)) ∧ w = w' := by
  by_cases h0 : 0 < zs.length
  rotate_left
  · have H : Hid (arrB zs = false) := Lib.hid (arrB_f (fun h => h0 h.1))
    obtain rfl : zs = [] := List.length_eq_zero_iff.1 (by omega)
    clear h0 hz
    go_enter Try.func11, Try.ntmps11
    go_wp2
    go_ret
    exact ⟨ret_bool H.out.symm, rfl⟩
  have hne : ((zs.length : Int) == 0) = false := by rw [beq_eq_false_iff_ne]; omega
  by_cases h1 : zs.length ≤ 12
  rotate_left
  · have H : Hid (arrB zs = false) := Lib.hid (arrB_f (fun h => h1 h.2.1))
    clear hz
    go_enter Try.func11, Try.ntmps11
    go_wp2
    go_ret
    exact ⟨ret_bool H.out.symm, rfl⟩
  obtain ⟨N, hN⟩ : ∃ N, zs.length = N := ⟨_, rfl⟩
  rw [hN] at hl h0 h1 hne ⊢
  have HN := Lib.hid hN
  clear hN
  go_enter Try.func11, Try.ntmps11
  go_wp2
  go_loop [15] (fun i => ∃ k : Nat, k ≤ N ∧ i = .int .i64 k ∧ ∀ j, j < k → arrP zs j) (fun i => N - (intOf i).toNat)
  case atStart => exact ⟨0, by omega, rfl, fun j hj => by omega⟩
  case round =>
    obtain ⟨k, hk, rfl, hr⟩ := hrel
    have HR := Lib.hid hr
    clear hr
    by_cases hlt : k < N
    · obtain ⟨b, off, rfl, hB, hc⟩ := hz.at_ (j := k) (by rw [HN.out]; exact hlt)
      have HZ := Lib.hid hz
      clear hz
      obtain ⟨x, hx⟩ : ∃ x, zs.getD k 0 = x := ⟨_, rfl⟩
      rw [hx] at hc
      have HX := Lib.hid hx
      clear hx
      by_cases g1 : x < -10000
      · go_wp2
        go_ret
        exact ⟨ret_bool (arrB_f (fun h => by have := hasB_in (h.2.2 k (by rw [HN.out]; exact hlt)).1; rw [HX.out] at this; omega)).symm, rfl⟩
      by_cases g2 : 10000 < x
      · go_wp2
        go_ret
        exact ⟨ret_bool (arrB_f (fun h => by have := hasB_in (h.2.2 k (by rw [HN.out]; exact hlt)).1; rw [HX.out] at this; omega)).symm, rfl⟩
      cases k with
      | zero =>
        rw [Nat.add_zero] at hc
        go_wp2
        go_round
        case rel => exact ⟨1, by omega, rfl, fun j hj => by obtain rfl : j = 0 := by omega
                                                            exact ⟨by rw [HX.out]; exact hasB_mk (by omega) (by omega), by omega⟩⟩
        case measure => simp [intOf]; omega
      | succ m =>
        obtain ⟨b', off', he, _, hc2⟩ := HZ.out.at_ (j := m) (by rw [HN.out]; omega)
        simp only [Option.some.injEq, Addr.mk.injEq, and_true] at he
        obtain ⟨e1, e2⟩ := he
        subst e1 e2
        obtain ⟨y, hy⟩ : ∃ y, zs.getD m 0 = y := ⟨_, rfl⟩
        rw [hy] at hc2
        have HY := Lib.hid hy
        clear hy
        by_cases h3 : x ≤ y
        · go_wp2
          go_ret
          exact ⟨ret_bool (arrB_f (fun h => by have := (h.2.2 (m + 1) (by rw [HN.out]; exact hlt)).2 (by omega); rw [HX.out, Nat.add_sub_cancel, HY.out] at this; omega)).symm, rfl⟩
        · go_wp2
          go_round
          case rel =>
            refine ⟨m + 2, by omega, by go_num, fun j hj => ?_⟩
            by_cases hjm : j < m + 1
            · exact HR.out j hjm
            · obtain rfl : j = m + 1 := by omega
              exact ⟨by rw [HX.out]; exact hasB_mk (by omega) (by omega), fun _ => by rw [HX.out, Nat.add_sub_cancel, HY.out]; omega⟩
          case measure => simp [intOf]; omega
    · obtain rfl : k = N := by omega
      clear hz
      go_wp2
      go_ret
      exact ⟨ret_bool (arrB_mk (by rw [HN.out]; exact h0) (by rw [HN.out]; exact h1) (fun i hi => HR.out i (by rw [HN.out] at hi; exact hi))).symm, rfl⟩
theorem withB_t {zs : List Int} {most lo hi : Int} (h : withB zs most lo hi = true) : (zs.length : Int) ≤ most ∧ ∀ k, k < zs.length → hasB lo hi (zs.getD k 0) = true := by
  unfold withB at h
  simp only [Bool.and_eq_true, decide_eq_true_eq, Bool.not_eq_true'] at h
  refine ⟨h.2, fun k hk => ?_⟩
  have := anyLack_all h.1 hk
  exact hasB_mk this.1 this.2
theorem withB_mk {zs : List Int} {most lo hi : Int} (h1 : (zs.length : Int) ≤ most) (h2 : ∀ k, k < zs.length → hasB lo hi (zs.getD k 0) = true) : withB zs most lo hi = true := by
  unfold withB
  rw [anyLack_f h2, decide_eq_true h1]; rfl
set_option maxHeartbeats 1000000 in
theorem sar_any (w : World) (B : Nat) (a : Option Addr) (cap : Nat) (zs : List Int) (hl : zs.length ≤ 9223372036854775807) (hz : Ints .i64 w B a zs) :
    Calls Try.prog 9 #[.slice a zs.length cap] w fun e w' => e = .returned (.bool (arrB zs)) ∧ ∃ n, w' = w.drewN n := by
  by_cases h0 : 0 < zs.length
  rotate_left
  · have H : Hid (arrB zs = false) := Lib.hid (arrB_f (fun h => h0 h.1))
    obtain rfl : zs = [] := List.length_eq_zero_iff.1 (by omega)
    clear h0 hz
    go_enter Try.func9, Try.ntmps9
    go_wp2
    go_ret
    exact ⟨ret_bool H.out.symm, 0, rfl⟩
  have W1 : Hid (∀ w : World, Ints .i64 w B a zs → Calls Try.prog 32 #[.slice a zs.length cap, .int .i64 12, .int .i64 (-10000), .int .i64 10000] w fun e w' => e = .returned (.bool (withB zs 12 (-10000) 10000)) ∧ w = w') := Lib.hid (fun w hz => wth_any w B a cap zs 12 (-10000) 10000 hl hz)
  have HZ := Lib.hid hz
  clear hz
  cases hw : withB zs 12 (-10000) 10000
  · have H : Hid (arrB zs = false) := Lib.hid (arrB_f (fun h => by rw [withB_mk (by have := h.2.1; omega) (fun k hk => (h.2.2 k hk).1)] at hw; cases hw))
    rw [hw] at W1
    clear hw
    go_enter Try.func9, Try.ntmps9
    go_wp2_with (go_at_call 32; refine (W1.out _ HZ.out).mono ?_; rintro e w' ⟨rfl, rfl⟩)
    go_ret
    exact ⟨ret_bool H.out.symm, 0, rfl⟩
  obtain ⟨w1, w2⟩ := withB_t hw
  have HW := Lib.hid w2
  have h1 : zs.length ≤ 12 := by omega
  rw [hw] at W1
  clear w1 w2 hw
  obtain ⟨N, hN⟩ : ∃ N, zs.length = N := ⟨_, rfl⟩
  rw [hN] at hl h0 h1 W1 ⊢
  have HN := Lib.hid hN
  clear hN
  go_enter Try.func9, Try.ntmps9
  go_wp2_with (go_at_call 32; refine (W1.out _ HZ.out).mono ?_; rintro e w' ⟨rfl, rfl⟩)
  go_loopw [3] (fun i wr => ∃ k : Nat, (∃ n, wr = w.drewN n) ∧ k + 1 ≤ N ∧ i = .int .i64 ((k : Int) + 1) ∧ ∀ j, j ≤ k → 0 < j → zs.getD (j - 1) 0 < zs.getD j 0) (fun i _ => N - (intOf i).toNat)
  case atStart => exact ⟨0, ⟨0, rfl⟩, by omega, rfl, fun j hj hj0 => by omega⟩
  case round =>
    obtain ⟨k, ⟨nd, rfl⟩, hk, rfl, hr⟩ := hrel
    have HR := Lib.hid hr
    clear hr
    by_cases hlt : k + 1 < N
    · obtain ⟨b, off, rfl, hB, hc⟩ := HZ.out.at_ (j := k + 1) (by rw [HN.out]; exact hlt)
      obtain ⟨b', off', he, _, hc2⟩ := HZ.out.at_ (j := k) (by rw [HN.out]; omega)
      simp only [Option.some.injEq, Addr.mk.injEq, and_true] at he
      obtain ⟨e1, e2⟩ := he
      subst e1 e2
      obtain ⟨x, hx⟩ : ∃ x, zs.getD (k + 1) 0 = x := ⟨_, rfl⟩
      obtain ⟨y, hy⟩ : ∃ y, zs.getD k 0 = y := ⟨_, rfl⟩
      rw [hx] at hc
      rw [hy] at hc2
      have HX := Lib.hid hx
      have HY := Lib.hid hy
      clear hx hy
      have ek : IntKind.wrap .i64 ((k : Int) + 1 - 1) = (k : Int) := by rw [show (k : Int) + 1 - 1 = (k : Int) by omega]; exact IntWalk.i64_in _ (by omega)
      have ek1 : ((k : Int) + 1).toNat = k + 1 := by omega
      have ek2 : (0 : Int) ≤ (k : Int) + 1 := by omega
      have ek3 : k < N := by omega
      by_cases h3 : x ≤ y
      · have hd : decide (x ≤ y) = true := decide_eq_true h3
        go_wp2
        go_quiet (fail)
        go_wp2
        go_ret
        exact ⟨ret_bool (arrB_f (fun h => by have := (h.2.2 (k + 1) (by rw [HN.out]; exact hlt)).2 (by omega); rw [HX.out, Nat.add_sub_cancel, HY.out] at this; omega)).symm, _, World.drewN_drewN _ _ _⟩
      · have hd : decide (x ≤ y) = false := decide_eq_false h3
        go_wp2
        go_quiet (fail)
        go_wp2
        go_roundw
        case rel =>
          refine ⟨k + 1, ⟨_, rfl⟩, by omega, by go_num, fun j hj hj0 => ?_⟩
          by_cases hjm : j ≤ k
          · exact HR.out j hjm hj0
          · obtain rfl : j = k + 1 := by omega
            rw [HX.out, Nat.add_sub_cancel, HY.out]; omega
        case measure => simp [intOf]; omega
    · obtain rfl : N = k + 1 := by omega
      go_wp2
      go_ret
      exact ⟨ret_bool (arrB_mk (by rw [HN.out]; exact h0) (by rw [HN.out]; exact h1) (fun i hi => ⟨HW.out i hi, HR.out i (by rw [HN.out] at hi; omega)⟩)).symm, _, rfl⟩
theorem stm_any (r v : Int) (w : World) :
    Calls Try.prog 52 #[.int .i64 r, .int .i64 v] w fun e w' => e = .returned (.bool (timB r v)) ∧ w = w' := by
  cases h1 : inB r 1 100000 <;> cases h2 : inB v 1300000 1700000
  all_goals
    have HE : Hid (timB r v = (inB r 1 100000 && inB v 1300000 1700000)) := Lib.hid (by unfold timB; rw [hasB_inB, hasB_inB])
    rw [h1, h2] at HE
    have L1 : Hid (∀ w : World, Calls Try.prog 43 #[.int .i64 r, .int .i64 1, .int .i64 100000] w fun e w' => e = .returned (.bool (inB r 1 100000)) ∧ w = w') := Lib.hid (fun w => lin_any _ _ _ w)
    have L2 : Hid (∀ w : World, Calls Try.prog 43 #[.int .i64 v, .int .i64 1300000, .int .i64 1700000] w fun e w' => e = .returned (.bool (inB v 1300000 1700000)) ∧ w = w') := Lib.hid (fun w => lin_any _ _ _ w)
    rw [h1] at L1
    rw [h2] at L2
    clear h1 h2
    go_enter Try.func52, Try.ntmps52
    go_wp2_with (first | (go_at_call 43; with_reducible refine Calls.mono (L1.out _) ?_; rintro e w' ⟨rfl, rfl⟩) | (go_at_call 43; with_reducible refine Calls.mono (L2.out _) ?_; rintro e w' ⟨rfl, rfl⟩))
    go_ret
    exact ⟨ret_bool HE.out.symm, rfl⟩
end Go.Proofs.Ythfaejhiabdkbaa
