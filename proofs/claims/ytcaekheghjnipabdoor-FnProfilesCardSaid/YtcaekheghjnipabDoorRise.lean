/- Contracts of IsRising, the program's and the model's. -/
import Derived.Test.YtcaekheghjnipabDoorMem
import Derived.Test.YtcaekheghjnipabDoorNum
import Derived.LoopTactic
import Derived.Deep.QuietTactic
import Derived.BigQuiet
import Derived.Outline
namespace Go.Proofs.YtcaekheghjnipabDoor
open Go.ChangeShapes Go.WideShapes Go.ChangeAt Go.RowKit Num
set_option linter.unusedVariables false
/-- strictly increasing, all elements from 0 to n - 1 -/
def risP (zs : List Int) (n : Int) (i : Nat) : Prop := 0 ≤ zs.getD i 0 ∧ zs.getD i 0 < n ∧ (0 < i → zs.getD (i - 1) 0 < zs.getD i 0)
instance (zs : List Int) (n : Int) (i : Nat) : Decidable (risP zs n i) := by unfold risP; infer_instance
def risB (zs : List Int) (n : Int) : Bool := decide (∀ i, i < zs.length → risP zs n i)
theorem risB_t {zs : List Int} {n : Int} (h : ∀ i, i < zs.length → risP zs n i) : risB zs n = true := by unfold risB; exact decide_eq_true h
theorem risB_f {zs : List Int} {n : Int} {k : Nat} (hk : k < zs.length) (h : ¬ risP zs n k) : risB zs n = false := by
  unfold risB; exact decide_eq_false (fun g => h (g k hk))

theorem iir_any (w : World) (B : Nat) (a : Option Addr) (cap : Nat) (zs : List Int) (n : Int) (hl : zs.length ≤ 9223372036854775807) (hz : Ints .i64 w B a zs) :
    Calls Tryd.prog 41 #[.slice a zs.length cap, .int .i64 n] w fun e w' => e = .returned (.bool (risB zs n)) ∧ w = w' := by
  go_enter Tryd.func41, Tryd.ntmps41
  go_wp2
  go_loop [9] (fun i => ∃ k : Nat, k ≤ zs.length ∧ i = .int .i64 k ∧ ∀ j, j < k → risP zs n j) (fun i => zs.length - (intOf i).toNat)
  case atStart => exact ⟨0, by omega, rfl, fun j hj => by omega⟩
  case round =>
    obtain ⟨k, hk, rfl, hr⟩ := hrel
    have HR := Lib.hid hr
    clear hr
    by_cases hlt : k < zs.length
    · obtain ⟨b, off, rfl, hB, hc⟩ := hz.at_ hlt
      have HZ := Lib.hid hz
      clear hz
      obtain ⟨x, hx⟩ : ∃ x, zs.getD k 0 = x := ⟨_, rfl⟩
      rw [hx] at hc
      have HX := Lib.hid hx
      clear hx
      by_cases h1 : x < 0
      · go_wp2
        go_ret
        exact ⟨ret_bool (risB_f hlt (fun h => by have := h.1; rw [HX.out] at this; omega)).symm, rfl⟩
      · by_cases h2 : n ≤ x
        · go_wp2
          go_ret
          exact ⟨ret_bool (risB_f hlt (fun h => by have := h.2.1; rw [HX.out] at this; omega)).symm, rfl⟩
        · cases k with
          | zero =>
            rw [Nat.add_zero] at hc
            go_wp2
            go_round
            case rel => exact ⟨1, by omega, rfl, fun j hj => by obtain rfl : j = 0 := by omega
                                                                exact ⟨by rw [HX.out]; omega, by rw [HX.out]; omega, by omega⟩⟩
            case measure => simp [intOf]; omega
          | succ m =>
            obtain ⟨b', off', he, _, hc2⟩ := HZ.out.at_ (j := m) (by omega)
            simp only [Option.some.injEq, Addr.mk.injEq, and_true] at he
            obtain ⟨e1, e2⟩ := he
            subst e1 e2
            obtain ⟨y, hy⟩ : ∃ y, zs.getD m 0 = y := ⟨_, rfl⟩
            rw [hy] at hc2
            have HY := Lib.hid hy
            clear hy
            by_cases h3 : x ≤ y
            · go_wp2
              go_ret
              exact ⟨ret_bool (risB_f hlt (fun h => by have := h.2.2 (by omega); rw [HX.out, Nat.add_sub_cancel, HY.out] at this; omega)).symm, rfl⟩
            · go_wp2
              go_round
              case rel =>
                refine ⟨m + 2, by omega, by go_num, fun j hj => ?_⟩
                by_cases hjm : j < m + 1
                · exact HR.out j hjm
                · obtain rfl : j = m + 1 := by omega
                  exact ⟨by rw [HX.out]; omega, by rw [HX.out]; omega, fun _ => by rw [HX.out, Nat.add_sub_cancel, HY.out]; omega⟩
              case measure => simp [intOf]; omega
    · go_wp2
      go_ret
      exact ⟨ret_bool (risB_t (fun i hi => HR.out i (by omega))).symm, rfl⟩
set_option maxHeartbeats 1000000 in
theorem lri_any (w : World) (B : Nat) (a : Option Addr) (cap : Nat) (zs : List Int) (n : Int) (hl : zs.length ≤ 9223372036854775807) (hz : Ints .i64 w B a zs) :
    Calls Tryd.prog 44 #[.slice a zs.length cap, .int .i64 n] w fun e w' => e = .returned (.bool (risB zs n)) ∧ ∃ n, w' = w.drewN n := by
  go_enter Tryd.func44, Tryd.ntmps44
  go_wp2
  go_loopw [5] (fun i wr => ∃ k : Nat, (∃ n, wr = w.drewN n) ∧ k ≤ zs.length ∧ i = .int .i64 k ∧ ∀ j, j < k → risP zs n j) (fun i _ => zs.length - (intOf i).toNat)
  case atStart => exact ⟨0, ⟨0, rfl⟩, by omega, rfl, fun j hj => by omega⟩
  case round =>
    obtain ⟨k, ⟨nd, rfl⟩, hk, rfl, hr⟩ := hrel
    have HR := Lib.hid hr
    clear hr
    by_cases hlt : k < zs.length
    · obtain ⟨b, off, rfl, hB, hc⟩ := hz.at_ hlt
      have HZ := Lib.hid hz
      clear hz
      obtain ⟨x, hx⟩ : ∃ x, zs.getD k 0 = x := ⟨_, rfl⟩
      rw [hx] at hc
      have HX := Lib.hid hx
      clear hx
      by_cases h1 : x < 0
      · go_wp2
        go_quiet (fail)
        go_wp2
        go_ret
        exact ⟨ret_bool (risB_f hlt (fun h => by have := h.1; rw [HX.out] at this; omega)).symm, _, World.drewN_drewN _ _ _⟩
      · have d1 : decide (x < 0) = false := by simpa using h1
        by_cases h2 : n ≤ x
        · have d2 : decide (n ≤ x) = true := by simpa using h2
          go_wp2
          go_quiet (fail)
          go_wp2
          go_ret
          exact ⟨ret_bool (risB_f hlt (fun h => by have := h.2.1; rw [HX.out] at this; omega)).symm, _, World.drewN_drewN _ _ _⟩
        · have d2 : decide (n ≤ x) = false := by simpa using h2
          cases k with
          | zero =>
            rw [Nat.add_zero] at hc
            have d3 : decide ((0 : Int) < 0) = false := by decide
            go_wp2
            go_quiet (fail)
            go_wp2
            go_roundw
            case rel => exact ⟨1, ⟨_, rfl⟩, by omega, rfl, fun j hj => by
              obtain rfl : j = 0 := by omega
              exact ⟨by rw [HX.out]; omega, by rw [HX.out]; omega, by omega⟩⟩
            case measure => simp [intOf]; omega
          | succ m =>
            obtain ⟨b', off', he, _, hc2⟩ := HZ.out.at_ (j := m) (by omega)
            simp only [Option.some.injEq, Addr.mk.injEq, and_true] at he
            obtain ⟨e1, e2⟩ := he
            subst e1 e2
            obtain ⟨y, hy⟩ : ∃ y, zs.getD m 0 = y := ⟨_, rfl⟩
            rw [hy] at hc2
            have HY := Lib.hid hy
            clear hy
            have d3 : decide ((0 : Int) < (m : Int) + 1) = true := by simp
            by_cases h3 : x ≤ y
            · have d4 : decide (x ≤ y) = true := by simpa using h3
              go_wp2
              go_quiet (fail)
              go_wp2
              go_ret
              exact ⟨ret_bool (risB_f hlt (fun h => by have := h.2.2 (by omega); rw [HX.out, Nat.add_sub_cancel, HY.out] at this; omega)).symm, _, World.drewN_drewN _ _ _⟩
            · have d4 : decide (x ≤ y) = false := by simpa using h3
              go_wp2
              go_quiet (fail)
              go_wp2
              go_roundw
              case rel =>
                refine ⟨m + 2, ⟨_, rfl⟩, by omega, by go_num, fun j hj => ?_⟩
                by_cases hjm : j < m + 1
                · exact HR.out j hjm
                · obtain rfl : j = m + 1 := by omega
                  exact ⟨by rw [HX.out]; omega, by rw [HX.out]; omega, fun _ => by rw [HX.out, Nat.add_sub_cancel, HY.out]; omega⟩
              case measure => simp [intOf]; omega
    · go_wp2
      go_ret
      exact ⟨ret_bool (risB_t (fun i hi => HR.out i (by omega))).symm, _, rfl⟩

end Go.Proofs.YtcaekheghjnipabDoor
