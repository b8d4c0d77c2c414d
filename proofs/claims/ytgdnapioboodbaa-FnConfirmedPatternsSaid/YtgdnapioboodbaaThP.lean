/- Contracts of the search for the scan that confirms, the program's and the model's. -/
import Derived.Test.YtgdnapioboodbaaThB
import Derived.Deep.RegionHeld3
namespace Go.Proofs.Ytgdnapioboodbaa
open Go.ChangeShapes Go.WideShapes Go.ChangeAt Go.RowKit Go.Shelf Num
set_option linter.unusedVariables false
set_option linter.unusedSimpArgs false
set_option maxRecDepth 100000 in
theorem run_mid (b off n c lo hi : Nat) (h1 : lo ≤ hi) (h2 : hi ≤ c) (h3 : ¬ c = lo) (w : World) : (Instr.sliceAt 32 (.slice (some ⟨b, off, none⟩) n c) (some (.int .i64 (lo : Int))) (some (.int .i64 (hi : Int))) none).run Try.prog w = .ok (.slice (some ⟨b, off + lo, none⟩) (hi - lo) (c - lo)) w := by
  rw [run_sliceAt_slice (w := w) _ _ _ _ _ Try.underlying32, run_slice_lh (w := w) _ _ _ _ Try.underlying32 .i64 .i64 (lo : Int) (hi : Int) (by omega) (by omega) (by omega)]
  have hs : (sizeOf (Try.prog.elem 32)).run Try.prog w = .ok 1 w := by kernel_rfl
  rw [hs]
  simp [Result.andThen, sliced, h3, Addr.add]
theorem lsu_any (w : World) (B n : Nat) (a : Option Addr) (cap : Nat) (xs : List Int) (hn : xs.length = n) (hl : n ≤ 1000) (hb : bitsL xs) (hz : Ints .i64 w B a xs) :
    Calls Try.prog 70 #[.slice a n cap] w fun e w' => e = .returned (.int .i64 (preS xs n)) ∧ w = w' := by
  have HN := Lib.hid hn
  have HB := Lib.hid hb
  clear hn hb
  go_enter Try.func70, Try.ntmps70
  go_wp2
  go_loop [3, 4] (fun s i => ∃ k : Nat, k ≤ n ∧ i = .int .i64 (k : Int) ∧ s = .int .i64 (preS xs k)) (fun _ i => n - (intOf i).toNat)
  case atStart => exact ⟨0, by omega, rfl, rfl⟩
  case round =>
    obtain ⟨k, hk, rfl, rfl⟩ := hrel
    by_cases hlt : k < n
    · obtain ⟨b1, o1, rfl, -, hc1⟩ := hz.at_ (j := k) (by rw [HN.out]; exact hlt)
      have hs := Lib.hid (preS_succ xs k)
      have hp := preS_bd HB.out k
      have hx := HB.out k
      obtain ⟨x, hx1⟩ : ∃ x, xs.getD k 0 = x := ⟨_, rfl⟩
      obtain ⟨S, hS⟩ : ∃ S, preS xs k = S := ⟨_, rfl⟩
      rw [hx1] at hc1 hs hx
      rw [hS] at hs hp ⊢
      have q1 : 0 ≤ S := hp.1
      have q2 : S ≤ 1000 := by omega
      have q3 : 0 ≤ x := by omega
      have q4 : x ≤ 1 := by omega
      clear hz hx hx1 hS hp
      go_wp2
      go_round
      case rel => exact ⟨k + 1, by omega, by go_num, by rw [hs.out]⟩
      case measure => simp [intOf]; omega
    · obtain rfl : k = n := by omega
      go_wp2
      go_ret
      exact ⟨rfl, rfl⟩
def cfR (zs : List Int) (m : Int) (u : Nat) : Int := if cfS zs m u < 0 then 0 else cfS zs m u
def cfK (zs : List Int) (m : Int) (u : Nat) : Bool := !decide (cfS zs m u < 0)
theorem cf_at {zs : List Int} {m : Int} {u k : Nat} (h : cfS zs m u = (k : Int)) : Ending.returned (.tuple #[.int .i64 (k : Int), .bool true]) = .returned (.tuple #[.int .i64 (cfR zs m u), .bool (cfK zs m u)]) := by
  unfold cfR cfK
  rw [h, if_neg (by omega), decide_eq_false (by omega)]
  rfl
theorem cf_no {zs : List Int} {m : Int} {u : Nat} (h : cfS zs m u = -1) : Ending.returned (.tuple #[.int .i64 0, .bool false]) = .returned (.tuple #[.int .i64 (cfR zs m u), .bool (cfK zs m u)]) := by
  unfold cfR cfK
  rw [h]
  rfl
/-- detections of the last scans ahead of scan i -/
def dtS (zs : List Int) (u : Nat) : Nat → Int
  | 0 => 0
  | i + 1 => winS zs u i
theorem dtS_zero (zs : List Int) (u : Nat) : dtS zs u 0 = 0 := rfl
theorem dtS_succ (zs : List Int) (u i : Nat) : dtS zs u (i + 1) = winS zs u i := rfl
theorem dtS_step (zs : List Int) (u i : Nat) (hu : 1 ≤ u) : winS zs u i = dtS zs u i + zs.getD i 0 - (if u ≤ i then zs.getD (i - u) 0 else 0) := by
  cases i with
  | zero => rw [winS_zero zs u hu, dtS_zero, if_neg (by omega)]; omega
  | succ i =>
    rw [dtS_succ]
    by_cases h : u ≤ i + 1
    · rw [winS_out zs u i hu h, if_pos h]
    · rw [winS_in zs u i (by omega), if_neg h]; omega
theorem winS_bd {zs : List Int} (h : bitsL zs) (u i : Nat) : 0 ≤ winS zs u i ∧ winS zs u i ≤ i + 1 := by
  unfold winS
  have a := preS_mono h (i + 1 - u) (i + 1 - (i + 1 - u))
  have b := preS_bd h (i + 1 - u)
  have c := preS_bd h (i + 1)
  rw [show i + 1 - u + (i + 1 - (i + 1 - u)) = i + 1 by omega] at a
  omega
theorem dtS_bd {zs : List Int} (h : bitsL zs) (u i : Nat) : 0 ≤ dtS zs u i ∧ dtS zs u i ≤ i := by
  cases i with
  | zero => rw [dtS_zero]; omega
  | succ i => have := winS_bd h u i; rw [dtS_succ]; omega
theorem win_mid {zs : List Int} (u i : Nat) (hi : i < zs.length) : winS zs u i = preS ((zs.drop (i + 1 - u)).take (i + 1 - (i + 1 - u))) (i + 1 - (i + 1 - u)) := by
  rw [preS_shift (xs := (zs.drop (i + 1 - u)).take (i + 1 - (i + 1 - u))) (zs := zs) (lo := i + 1 - u) _ (fun j hj => by
    rw [List.getD_eq_getElem?_getD, List.getElem?_take, if_pos hj, List.getElem?_drop, ← List.getD_eq_getElem?_getD])]
  unfold winS
  rw [show i + 1 - u + (i + 1 - (i + 1 - u)) = i + 1 by omega]
theorem mid_bits {zs : List Int} (h : bitsL zs) (lo n : Nat) : bitsL ((zs.drop lo).take n) := by
  intro j
  rw [List.getD_eq_getElem?_getD, List.getElem?_take]
  split
  · rw [List.getElem?_drop, ← List.getD_eq_getElem?_getD]; exact h (lo + j)
  · left; rfl
theorem Ints.mid {w : World} {B b off : Nat} {zs : List Int} (hB : b < B) (hc : ∀ j, j < zs.length → w.cell? ⟨b, off + j, none⟩ = some (.int .i64 (zs.getD j 0))) (lo n : Nat) (h : lo + n ≤ zs.length) : Ints .i64 w B (some ⟨b, off + lo, none⟩) ((zs.drop lo).take n) := fun hp => ⟨b, off + lo, rfl, hB, fun j hj => by
  rw [List.length_take, List.length_drop] at hj
  rw [List.getD_eq_getElem?_getD, List.getElem?_take, if_pos (by omega), List.getElem?_drop, ← List.getD_eq_getElem?_getD, Nat.add_assoc]
  exact hc (lo + j) (by omega)⟩
set_option maxRecDepth 100000 in
set_option maxHeartbeats 4000000 in
theorem lcf_any (w : World) (B n : Nat) (a : Option Addr) (cap u : Nat) (m : Int) (zs : List Int) (hn : zs.length = n) (hl : n ≤ 1000) (hcap : n ≤ cap) (u1 : 1 ≤ u) (u2 : u ≤ 12) (m1 : 1 ≤ m) (m2 : m ≤ 12) (hb : bitsL zs) (hz : Ints .i64 w B a zs) :
    Calls Try.prog 62 #[.slice a n cap, .int .i64 m, .int .i64 (u : Int)] w fun e w' => e = .returned (.int .i64 (cfS zs m u)) ∧ w = w' := by
  have HN := Lib.hid hn
  have HB := Lib.hid hb
  have HV : Hid (cfS zs m u = cfF zs m u n 0) := Lib.hid (by rw [cfS, hn])
  clear hn hb
  go_enter Try.func62, Try.ntmps62
  go_wp2
  go_loop [7] (fun i => ∃ k j : Nat, k + j = n ∧ i = .int .i64 (k : Int) ∧ cfS zs m u = cfF zs m u j k) (fun i => n - (intOf i).toNat)
  case atStart => exact ⟨0, n, by omega, rfl, HV.out⟩
  case round =>
    obtain ⟨k, j, hk, rfl, hV⟩ := hrel
    replace HV := Lib.hid hV
    clear hV
    by_cases hlt : k < n
    · obtain ⟨j, rfl⟩ : ∃ q, j = q + 1 := ⟨j - 1, by omega⟩
      obtain ⟨b, off, rfl, hBb, hcl⟩ := hz (by rw [HN.out]; omega)
      clear hz
      obtain ⟨lo, hlo⟩ : ∃ q, k + 1 - u = q := ⟨_, rfl⟩
      have hW := win_mid (zs := zs) u k (by rw [HN.out]; exact hlt)
      rw [hlo] at hW
      have KS : Hid (∀ W : World, W = w → Calls Try.prog 70 #[.slice (some ⟨b, off + lo, none⟩) (k + 1 - lo) (cap - lo)] W fun e w' => e = .returned (.int .i64 (winS zs u k)) ∧ W = w') := Lib.hid (fun W hw => by
        subst hw
        rw [hW]
        exact lsu_any W B (k + 1 - lo) _ _ _ (by rw [List.length_take, List.length_drop, HN.out]; omega) (by omega) (mid_bits HB.out _ _) (Ints.mid hBb hcl lo (k + 1 - lo) (by rw [HN.out]; omega)))
      have hsl := fun w => run_mid b off n cap lo (k + 1) (by omega) (by omega) (by omega) w
      have HS : Hid (cfS zs m u = if m ≤ winS zs u k then (k : Int) else cfF zs m u j (k + 1)) := Lib.hid HV.out
      obtain ⟨V, hV2⟩ : ∃ q, winS zs u k = q := ⟨_, rfl⟩
      have hbd := winS_bd HB.out u k
      rw [hV2] at KS HS hbd
      clear hW hV2 hcl HV hbd
      by_cases hmv : m ≤ V
      · rw [if_pos hmv] at HS
        by_cases huk : u ≤ k
        · go_wp2_with (go_at_call 70; with_reducible refine Calls.mono (KS.out _ rfl) ?_; rintro e w1 ⟨rfl, rfl⟩)
          go_ret
          exact ⟨ret_int HS.out.symm, rfl⟩
        · obtain rfl : lo = 0 := by omega
          clear hlo
          rw [Nat.add_zero, Nat.sub_zero, Nat.sub_zero] at KS
          clear hsl
          go_wp2_with (go_at_call 70; with_reducible refine Calls.mono (KS.out _ rfl) ?_; rintro e w1 ⟨rfl, rfl⟩)
          go_ret
          exact ⟨ret_int HS.out.symm, rfl⟩
      · rw [if_neg hmv] at HS
        by_cases huk : u ≤ k
        · go_wp2_with (go_at_call 70; with_reducible refine Calls.mono (KS.out _ rfl) ?_; rintro e w1 ⟨rfl, rfl⟩)
          go_round
          case rel => exact ⟨k + 1, j, by omega, by go_num, HS.out⟩
          case measure => simp [intOf]; omega
        · obtain rfl : lo = 0 := by omega
          clear hlo
          rw [Nat.add_zero, Nat.sub_zero, Nat.sub_zero] at KS
          clear hsl
          go_wp2_with (go_at_call 70; with_reducible refine Calls.mono (KS.out _ rfl) ?_; rintro e w1 ⟨rfl, rfl⟩)
          go_round
          case rel => exact ⟨k + 1, j, by omega, by go_num, HS.out⟩
          case measure => simp [intOf]; omega
    · obtain rfl : j = 0 := by omega
      obtain rfl : k = n := by omega
      have HE : Hid (cfS zs m u = -1) := Lib.hid HV.out
      clear hz HV
      go_wp2
      go_ret
      exact ⟨ret_int HE.out.symm, rfl⟩
set_option maxRecDepth 100000 in
set_option maxHeartbeats 4000000 in
theorem cfa_any (w : World) (B n : Nat) (a : Option Addr) (cap u : Nat) (m : Int) (zs : List Int) (hn : zs.length = n) (hl : n ≤ 1000) (u1 : 1 ≤ u) (u2 : u ≤ 12) (m1 : 1 ≤ m) (m2 : m ≤ 12) (hb : bitsL zs) (hz : Ints .i64 w B a zs) :
    Calls Try.prog 60 #[.slice a n cap, .int .i64 m, .int .i64 (u : Int)] w fun e w' => e = .returned (.tuple #[.int .i64 (cfR zs m u), .bool (cfK zs m u)]) ∧ w = w' := by
  have HN := Lib.hid hn
  have HB := Lib.hid hb
  have HV : Hid (cfS zs m u = cfF zs m u n 0) := Lib.hid (by rw [cfS, hn])
  clear hn hb
  go_enter Try.func60, Try.ntmps60
  go_wp2
  go_loop [8, 14] (fun d i => ∃ k j : Nat, k + j = n ∧ d = .int .i64 (dtS zs u k) ∧ i = .int .i64 (k : Int) ∧ cfS zs m u = cfF zs m u j k) (fun _ i => n - (intOf i).toNat)
  case atStart => exact ⟨0, n, by omega, rfl, rfl, HV.out⟩
  case round =>
    obtain ⟨k, j, hk, rfl, rfl, hV⟩ := hrel
    replace HV := Lib.hid hV
    clear hV
    by_cases hlt : k < n
    · obtain ⟨j, rfl⟩ : ∃ q, j = q + 1 := ⟨j - 1, by omega⟩
      obtain ⟨b, off, rfl, hBb, hcl⟩ := hz (by rw [HN.out]; omega)
      clear hz
      have HS : Hid (cfS zs m u = if m ≤ winS zs u k then (k : Int) else cfF zs m u j (k + 1)) := Lib.hid HV.out
      have HD : Hid (winS zs u k = dtS zs u k + zs.getD k 0 - (if u ≤ k then zs.getD (k - u) 0 else 0)) := Lib.hid (dtS_step zs u k u1)
      have HW : Hid (dtS zs u (k + 1) = winS zs u k) := Lib.hid rfl
      have hc1 := hcl k (by rw [HN.out]; exact hlt)
      have hd := dtS_bd HB.out u k
      have hx := HB.out k
      have hv := winS_bd HB.out u k
      obtain ⟨x, hx1⟩ : ∃ x, zs.getD k 0 = x := ⟨_, rfl⟩
      obtain ⟨D, hD⟩ : ∃ q, dtS zs u k = q := ⟨_, rfl⟩
      obtain ⟨V, hV2⟩ : ∃ q, winS zs u k = q := ⟨_, rfl⟩
      rw [hx1] at hc1 hx HD
      rw [hD] at hd HD ⊢
      rw [hV2] at HS HD HW hv
      have v1 : 0 ≤ V := hv.1
      have v2 : V ≤ 1000 := by omega
      have d1 : 0 ≤ D := hd.1
      have d2 : D ≤ 1000 := by omega
      have x1 : 0 ≤ x := by omega
      have x2 : x ≤ 1 := by omega
      by_cases huk : u ≤ k
      · have hc2 := hcl (k - u) (by rw [HN.out]; omega)
        have hy := HB.out (k - u)
        obtain ⟨y, hy1⟩ : ∃ y, zs.getD (k - u) 0 = y := ⟨_, rfl⟩
        rw [hy1] at hc2 hy
        rw [if_pos huk, hy1] at HD
        have y1 : 0 ≤ y := by omega
        have y2 : y ≤ 1 := by omega
        obtain ⟨f, hf⟩ : ∃ f, k - u = f := ⟨_, rfl⟩
        rw [hf] at hc2
        have e1 : IntKind.wrap .i64 ((k : Int) - (u : Int)) = (f : Int) := by rw [IntWalk.i64_in _ (by omega)]; omega
        have e1b : (k : Int) - (u : Int) = (f : Int) := by omega
        have hfn : (f : Int) < (n : Int) := by omega
        have e3 : D + x - y = V := by rw [HD.out]
        clear hy hy1 hf hx hx1 hd hD hV2 hcl HV hv HD
        by_cases hmv : m ≤ V
        · rw [if_pos hmv] at HS
          go_wp2
          go_ret2
          exact ⟨cf_at HS.out, rfl⟩
        · rw [if_neg hmv] at HS
          go_wp2
          go_round
          case rel => exact ⟨k + 1, j, by omega, by rw [HW.out], by go_num, HS.out⟩
          case measure => simp [intOf]; omega
      · rw [if_neg huk] at HD
        have e2b : D + x = V := by rw [HD.out]; omega
        have e1 : (k : Int) - (u : Int) < 0 := by omega
        clear hx hx1 hd hD hV2 hcl HV hv HD
        by_cases hmv : m ≤ V
        · rw [if_pos hmv] at HS
          go_wp2
          go_ret2
          exact ⟨cf_at HS.out, rfl⟩
        · rw [if_neg hmv] at HS
          go_wp2
          go_round
          case rel => exact ⟨k + 1, j, by omega, by rw [HW.out], by go_num, HS.out⟩
          case measure => simp [intOf]; omega
    · obtain rfl : j = 0 := by omega
      obtain rfl : k = n := by omega
      have HE : Hid (cfS zs m u = -1) := Lib.hid HV.out
      clear hz HV
      go_wp2
      go_ret2
      exact ⟨cf_no HE.out, rfl⟩
end Go.Proofs.Ytgdnapioboodbaa
