/- Contracts of the small functions of chapter 13, the program's and the model's: ranges, powers, exact counts, tails. -/
import Derived.Test.YtgdnapioboodbaaThM
import Derived.Test.YtgdnapioboodbaaPuA
import Derived.LoopTactic
import Derived.Outline
import Derived.Handy
import Derived.Deep.QuietTactic
namespace Go.Proofs.Ytgdnapioboodbaa
open Go.ChangeShapes Go.WideShapes Go.ChangeAt Go.RowKit Go.Shelf Num
set_option linter.unusedVariables false
set_option linter.unusedSimpArgs false
set_option maxHeartbeats 2000000 in
theorem isc_any (w : World) (n : Int) :
    Calls Try.prog 42 #[.int .i64 n] w fun e w' => e = .returned (.bool (scB n)) ∧ w = w' := by
  by_cases h1 : 0 ≤ n
  case neg =>
    go_enter Try.func42, Try.ntmps42
    go_wp2
    go_ret
    exact ⟨ret_bool (by unfold scB; (try rw [Bool.eq_iff_iff]); simp [inB]; try omega), rfl⟩
  case pos =>
    by_cases h2 : n ≤ 12
    case neg =>
      go_enter Try.func42, Try.ntmps42
      go_wp2
      go_ret
      exact ⟨ret_bool (by unfold scB; (try rw [Bool.eq_iff_iff]); simp [inB]; try omega), rfl⟩
    case pos =>
      go_enter Try.func42, Try.ntmps42
      go_wp2
      go_ret
      exact ⟨ret_bool (by unfold scB; (try rw [Bool.eq_iff_iff]); simp [inB]; try omega), rfl⟩
set_option maxHeartbeats 2000000 in
theorem ifr_any (w : World) (n d : Int) :
    Calls Try.prog 51 #[.int .i64 n, .int .i64 d] w fun e w' => e = .returned (.bool (frB n d)) ∧ w = w' := by
  by_cases h1 : 1 ≤ d
  case neg =>
    go_enter Try.func51, Try.ntmps51
    go_wp2
    go_ret
    exact ⟨ret_bool (by unfold frB; (try rw [Bool.eq_iff_iff]); simp [inB]; try omega), rfl⟩
  case pos =>
    by_cases h2 : d ≤ 1000
    case neg =>
      go_enter Try.func51, Try.ntmps51
      go_wp2
      go_ret
      exact ⟨ret_bool (by unfold frB; (try rw [Bool.eq_iff_iff]); simp [inB]; try omega), rfl⟩
    case pos =>
      by_cases h3 : 0 ≤ n
      case neg =>
        go_enter Try.func51, Try.ntmps51
        go_wp2
        go_ret
        exact ⟨ret_bool (by unfold frB; (try rw [Bool.eq_iff_iff]); simp [inB]; try omega), rfl⟩
      case pos =>
        by_cases h4 : n ≤ d
        case neg =>
          go_enter Try.func51, Try.ntmps51
          go_wp2
          go_ret
          exact ⟨ret_bool (by unfold frB; (try rw [Bool.eq_iff_iff]); simp [inB]; try omega), rfl⟩
        case pos =>
          go_enter Try.func51, Try.ntmps51
          go_wp2
          go_ret
          exact ⟨ret_bool (by unfold frB; (try rw [Bool.eq_iff_iff]); simp [inB]; try omega), rfl⟩
set_option maxHeartbeats 2000000 in
theorem iwd_any (w : World) (m v : Int) :
    Calls Try.prog 54 #[.int .i64 m, .int .i64 v] w fun e w' => e = .returned (.bool (wiB m v)) ∧ w = w' := by
  by_cases h1 : 1 ≤ v
  case neg =>
    go_enter Try.func54, Try.ntmps54
    go_wp2
    go_ret
    exact ⟨ret_bool (by unfold wiB; (try rw [Bool.eq_iff_iff]); simp [inB]; try omega), rfl⟩
  case pos =>
    by_cases h2 : v ≤ 12
    case neg =>
      go_enter Try.func54, Try.ntmps54
      go_wp2
      go_ret
      exact ⟨ret_bool (by unfold wiB; (try rw [Bool.eq_iff_iff]); simp [inB]; try omega), rfl⟩
    case pos =>
      by_cases h3 : 1 ≤ m
      case neg =>
        go_enter Try.func54, Try.ntmps54
        go_wp2
        go_ret
        exact ⟨ret_bool (by unfold wiB; (try rw [Bool.eq_iff_iff]); simp [inB]; try omega), rfl⟩
      case pos =>
        by_cases h4 : m ≤ v
        case neg =>
          go_enter Try.func54, Try.ntmps54
          go_wp2
          go_ret
          exact ⟨ret_bool (by unfold wiB; (try rw [Bool.eq_iff_iff]); simp [inB]; try omega), rfl⟩
        case pos =>
          go_enter Try.func54, Try.ntmps54
          go_wp2
          go_ret
          exact ⟨ret_bool (by unfold wiB; (try rw [Bool.eq_iff_iff]); simp [inB]; try omega), rfl⟩
set_option maxHeartbeats 2000000 in
theorem lsc_any (w : World) (n a : Int) :
    Calls Try.prog 45 #[.int .i64 n, .int .i64 a] w fun e w' => e = .returned (.bool (scB n && chB a)) ∧ w = w' := by
  obtain ⟨P, hP⟩ : ∃ q, inB n 0 12 = q := ⟨_, rfl⟩
  obtain ⟨Q, hQ⟩ : ∃ q, inB a 0 16 = q := ⟨_, rfl⟩
  have HE : Hid ((scB n && chB a) = (P && Q)) := Lib.hid (by unfold scB chB; rw [hP, hQ])
  have KP : Hid (∀ W : World, Calls Try.prog 46 #[.int .i64 n, .int .i64 0, .int .i64 12] W fun e w' => e = .returned (.bool P) ∧ W = w') := Lib.hid (fun W => by have := lin_any n 0 12 W; rwa [hP] at this)
  have KQ : Hid (∀ W : World, Calls Try.prog 46 #[.int .i64 a, .int .i64 0, .int .i64 16] W fun e w' => e = .returned (.bool Q) ∧ W = w') := Lib.hid (fun W => by have := lin_any a 0 16 W; rwa [hQ] at this)
  clear hP hQ
  cases P
  case false =>
    go_enter Try.func45, Try.ntmps45
    go_wp2_with (go_at_call 46; with_reducible refine Calls.mono (KP.out _) ?_; rintro e w1 ⟨rfl, rfl⟩)
    go_ret
    exact ⟨ret_bool (by rw [HE.out]; rfl), rfl⟩
  case true =>
    go_enter Try.func45, Try.ntmps45
    go_wp2_with (first | (go_at_call 46; with_reducible refine Calls.mono (KP.out _) ?_; rintro e w1 ⟨rfl, rfl⟩) | (go_at_call 46; with_reducible refine Calls.mono (KQ.out _) ?_; rintro e w1 ⟨rfl, rfl⟩))
    go_ret
    exact ⟨ret_bool (by rw [HE.out]; rfl), rfl⟩
set_option maxHeartbeats 2000000 in
theorem lpt13_any (w : World) (n d : Int) :
    Calls Try.prog 52 #[.int .i64 n, .int .i64 d] w fun e w' => e = .returned (.bool (frB n d)) ∧ w = w' := by
  obtain ⟨P, hP⟩ : ∃ q, inB d 1 1000 = q := ⟨_, rfl⟩
  obtain ⟨Q, hQ⟩ : ∃ q, inB n 0 d = q := ⟨_, rfl⟩
  have HE : Hid (frB n d = (P && Q)) := Lib.hid (by unfold frB; rw [hP, hQ])
  have KP : Hid (∀ W : World, Calls Try.prog 46 #[.int .i64 d, .int .i64 1, .int .i64 1000] W fun e w' => e = .returned (.bool P) ∧ W = w') := Lib.hid (fun W => by have := lin_any d 1 1000 W; rwa [hP] at this)
  have KQ : Hid (∀ W : World, Calls Try.prog 46 #[.int .i64 n, .int .i64 0, .int .i64 d] W fun e w' => e = .returned (.bool Q) ∧ W = w') := Lib.hid (fun W => by have := lin_any n 0 d W; rwa [hQ] at this)
  clear hP hQ
  cases P
  case false =>
    go_enter Try.func52, Try.ntmps52
    go_wp2_with (go_at_call 46; with_reducible refine Calls.mono (KP.out _) ?_; rintro e w1 ⟨rfl, rfl⟩)
    go_ret
    exact ⟨ret_bool (by rw [HE.out]; rfl), rfl⟩
  case true =>
    go_enter Try.func52, Try.ntmps52
    go_wp2_with (first | (go_at_call 46; with_reducible refine Calls.mono (KP.out _) ?_; rintro e w1 ⟨rfl, rfl⟩) | (go_at_call 46; with_reducible refine Calls.mono (KQ.out _) ?_; rintro e w1 ⟨rfl, rfl⟩))
    go_ret
    exact ⟨ret_bool (by rw [HE.out]; rfl), rfl⟩
set_option maxHeartbeats 2000000 in
theorem lru_any (w : World) (m v : Int) :
    Calls Try.prog 56 #[.int .i64 m, .int .i64 v] w fun e w' => e = .returned (.bool (wiB m v)) ∧ w = w' := by
  obtain ⟨P, hP⟩ : ∃ q, inB v 1 12 = q := ⟨_, rfl⟩
  obtain ⟨Q, hQ⟩ : ∃ q, inB m 1 v = q := ⟨_, rfl⟩
  have HE : Hid (wiB m v = (P && Q)) := Lib.hid (by unfold wiB; rw [hP, hQ])
  have KP : Hid (∀ W : World, Calls Try.prog 46 #[.int .i64 v, .int .i64 1, .int .i64 12] W fun e w' => e = .returned (.bool P) ∧ W = w') := Lib.hid (fun W => by have := lin_any v 1 12 W; rwa [hP] at this)
  have KQ : Hid (∀ W : World, Calls Try.prog 46 #[.int .i64 m, .int .i64 1, .int .i64 v] W fun e w' => e = .returned (.bool Q) ∧ W = w') := Lib.hid (fun W => by have := lin_any m 1 v W; rwa [hQ] at this)
  clear hP hQ
  cases P
  case false =>
    go_enter Try.func56, Try.ntmps56
    go_wp2_with (go_at_call 46; with_reducible refine Calls.mono (KP.out _) ?_; rintro e w1 ⟨rfl, rfl⟩)
    go_ret
    exact ⟨ret_bool (by rw [HE.out]; rfl), rfl⟩
  case true =>
    go_enter Try.func56, Try.ntmps56
    go_wp2_with (first | (go_at_call 46; with_reducible refine Calls.mono (KP.out _) ?_; rintro e w1 ⟨rfl, rfl⟩) | (go_at_call 46; with_reducible refine Calls.mono (KQ.out _) ?_; rintro e w1 ⟨rfl, rfl⟩))
    go_ret
    exact ⟨ret_bool (by rw [HE.out]; rfl), rfl⟩

theorem csf_any (w : World) (n : Nat) (hn : n ≤ 12) :
    Calls Try.prog 48 #[.int .i64 (n : Int)] w fun e w' => e = .returned (.int .i64 (pw n)) ∧ w = w' := by
  go_enter Try.func48, Try.ntmps48
  go_wp2
  go_loop [3, 5] (fun v i => ∃ k : Nat, k ≤ n ∧ v = .int .i64 (pw k) ∧ i = .int .i64 (k : Int)) (fun _ i => n - (intOf i).toNat)
  case atStart => exact ⟨0, by omega, rfl, rfl⟩
  case round =>
    obtain ⟨k, hk, rfl, rfl⟩ := hrel
    by_cases hlt : k < n
    · have hs := Lib.hid (pw_succ k)
      have h1 := pw_le (n := k) (by omega)
      have h0 := pw_pos k
      obtain ⟨P, hP⟩ : ∃ q, pw k = q := ⟨_, rfl⟩
      rw [hP] at hs h1 h0 ⊢
      clear hP
      go_wp2
      go_round
      case rel => exact ⟨k + 1, by omega, by rw [hs.out, Int.mul_comm], by go_num⟩
      case measure => simp [intOf]; omega
    · obtain rfl : k = n := by omega
      go_wp2
      go_ret
      exact ⟨rfl, rfl⟩
theorem lpw_any (w : World) (n : Nat) (hn : n ≤ 12) :
    Calls Try.prog 49 #[.int .i64 (n : Int)] w fun e w' => e = .returned (.int .i64 (pw n)) ∧ w = w' := by
  go_enter Try.func49, Try.ntmps49
  go_wp2
  go_loop [0, 3] (fun i v => ∃ k j : Nat, k + j = n ∧ v = .int .i64 (pw k) ∧ i = .int .i64 (j : Int)) (fun i _ => (intOf i).toNat)
  case atStart => exact ⟨0, n, by omega, rfl, rfl⟩
  case round =>
    obtain ⟨k, j, hk, rfl, rfl⟩ := hrel
    by_cases hlt : 0 < j
    · have hs := Lib.hid (pw_succ k)
      have h1 := pw_le (n := k) (by omega)
      have h0 := pw_pos k
      obtain ⟨P, hP⟩ : ∃ q, pw k = q := ⟨_, rfl⟩
      rw [hP] at hs h1 h0 ⊢
      clear hP
      go_wp2
      go_round
      case rel => exact ⟨k + 1, j - 1, by omega, by rw [hs.out], by go_num⟩
      case measure => simp [intOf]; omega
    · obtain rfl : j = 0 := by omega
      obtain rfl : k = n := by omega
      go_wp2
      go_ret
      exact ⟨rfl, rfl⟩
set_option maxHeartbeats 4000000 in
theorem lex_any (a : Int) (a0 : 0 ≤ a) (a1 : a ≤ 16) : ∀ (n : Nat) (hn : n ≤ 12) (k : Int) (k0 : -100 ≤ k) (k1 : k ≤ 100) (w : World),
    Calls Try.prog 66 #[.int .i64 (n : Int), .int .i64 a, .int .i64 k] w fun e w' => e = .returned (.int .i64 (exN a n k)) ∧ w = w' := by
  intro n
  induction n with
  | zero =>
    intro hn k k0 k1 w
    by_cases h1 : k < 0
    · have HE : Hid (exN a 0 k = 0) := Lib.hid (by unfold exN; rw [if_neg (by omega)])
      go_enter Try.func66, Try.ntmps66
      go_wp2
      go_ret
      exact ⟨ret_int HE.out.symm, rfl⟩
    · by_cases h2 : 0 < k
      · have HE : Hid (exN a 0 k = 0) := Lib.hid (by unfold exN; rw [if_neg (by omega)])
        go_enter Try.func66, Try.ntmps66
        go_wp2
        go_ret
        exact ⟨ret_int HE.out.symm, rfl⟩
      · obtain rfl : k = 0 := by omega
        go_enter Try.func66, Try.ntmps66
        go_wp2
        go_ret
        exact ⟨rfl, rfl⟩
  | succ n ih =>
    intro hn k k0 k1 w
    by_cases h1 : k < 0
    · have HE : Hid (exN a (n + 1) k = 0) := Lib.hid (by unfold exN; rw [if_pos (Or.inl h1)])
      clear ih
      go_enter Try.func66, Try.ntmps66
      go_wp2
      go_ret
      exact ⟨ret_int HE.out.symm, rfl⟩
    · by_cases h2 : (n : Int) + 1 < k
      · have HE : Hid (exN a (n + 1) k = 0) := Lib.hid (by unfold exN; rw [if_pos (Or.inr h2)])
        clear ih
        go_enter Try.func66, Try.ntmps66
        go_wp2
        go_ret
        exact ⟨ret_int HE.out.symm, rfl⟩
      · have HE : Hid (exN a (n + 1) k = a * exN a n (k - 1) + (16 - a) * exN a n k) := Lib.hid (by rw [exN, if_neg (by omega)])
        have K1 := Lib.hid (ih (by omega) (k - 1) (by omega) (by omega))
        have K2 := Lib.hid (ih (by omega) k (by omega) (by omega))
        have b1 := tl_bd a0 a1 n (k - 1)
        have b2 := tl_bd a0 a1 n (k - 1 + 1)
        have b3 := tl_bd a0 a1 n k
        have b4 := tl_bd a0 a1 n (k + 1)
        have c1 := tl_anti a0 a1 n (k - 1)
        have c2 := tl_anti a0 a1 n k
        have hp := pw_le (n := n) (by omega)
        have e1 := exN_tl (a := a) n (k - 1)
        have e2 := exN_tl (a := a) n k
        obtain ⟨X, hX⟩ : ∃ q, exN a n (k - 1) = q := ⟨_, rfl⟩
        obtain ⟨Y, hY⟩ : ∃ q, exN a n k = q := ⟨_, rfl⟩
        rw [hX] at K1 HE e1
        rw [hY] at K2 HE e2
        have x0 : 0 ≤ X ∧ X ≤ 281474976710656 := by omega
        have y0 : 0 ≤ Y ∧ Y ≤ 281474976710656 := by omega
        clear hX hY b1 b2 b3 b4 c1 c2 hp e1 e2 ih
        have m1 := prd48 x0.1 x0.2 a0 (by omega)
        have m2 := prd48 (y := 16 - a) y0.1 y0.2 (by omega) (by omega)
        rw [Int.mul_comm] at m1 m2
        have w1 : IntKind.wrap .i64 (a * X) = a * X := IntWalk.i64_in _ (by omega)
        have w2 : IntKind.wrap .i64 ((16 - a) * Y) = (16 - a) * Y := IntWalk.i64_in _ (by omega)
        obtain ⟨U, hU⟩ : ∃ q, a * X = q := ⟨_, rfl⟩
        obtain ⟨V, hV⟩ : ∃ q, (16 - a) * Y = q := ⟨_, rfl⟩
        rw [hU, hV] at HE
        rw [hU] at m1
        rw [hV] at m2
        have w3 : IntKind.wrap .i64 (a * X) = U := by rw [w1]; exact hU
        have w4 : IntKind.wrap .i64 ((16 - a) * Y) = V := by rw [w2]; exact hV
        clear w1 w2 hU hV x0 y0
        have hk1 : ((n + 1 : Nat) : Int) - 1 = n := by omega
        go_enter Try.func66, Try.ntmps66
        go_wp2_with (first | (go_at_call 66; with_reducible refine Calls.mono (K1.out _) ?_; rintro e w1 ⟨rfl, rfl⟩) | (go_at_call 66; with_reducible refine Calls.mono (K2.out _) ?_; rintro e w1 ⟨rfl, rfl⟩))
        go_ret
        exact ⟨ret_int HE.out.symm, rfl⟩
set_option maxHeartbeats 4000000 in
theorem ltl_any (w : World) (a : Int) (n : Nat) (m : Int) (a0 : 0 ≤ a) (a1 : a ≤ 16) (hn : n ≤ 12) (m0 : 0 ≤ m) (m1 : m ≤ (n : Int) + 1) :
    Calls Try.prog 47 #[.int .i64 (n : Int), .int .i64 a, .int .i64 m] w fun e w' => e = .returned (.int .i64 (tl a n m)) ∧ w = w' := by
  have HE := fun k => exN_tl (a := a) n k
  have HT : Hid (tl a n ((n : Int) + 1) = 0) := Lib.hid (tl_top n (by omega))
  have HB := Lib.hid (tl_bd a0 a1 n)
  have hp := pw_le (n := n) hn
  obtain ⟨M, hM⟩ : ∃ q, tl a n m = q := ⟨_, rfl⟩
  have HM := Lib.hid hM
  rw [hM]
  clear hM
  have HE := Lib.hid HE
  go_enter Try.func47, Try.ntmps47
  go_wp2
  go_loop [7, 8] (fun v i => ∃ k : Int, m ≤ k ∧ k ≤ (n : Int) + 1 ∧ v = .int .i64 (M - tl a n k) ∧ i = .int .i64 k) (fun _ i => ((n : Int) + 1 - intOf i).toNat)
  case atStart => exact ⟨m, by omega, m1, by rw [HM.out]; simp, rfl⟩
  case round =>
    obtain ⟨k, hk, hk1, rfl, rfl⟩ := hrel
    by_cases hlt : k ≤ n
    · have he := HE.out k
      have b1 := HB.out k
      have b2 := HB.out (k + 1)
      have b3 := HB.out m
      rw [HM.out] at b3
      have KE := Lib.hid (lex_any a a0 a1 n hn k (by omega) (by omega))
      obtain ⟨X, hX⟩ : ∃ q, exN a n k = q := ⟨_, rfl⟩
      obtain ⟨Y, hY⟩ : ∃ q, tl a n k = q := ⟨_, rfl⟩
      obtain ⟨Z, hZ⟩ : ∃ q, tl a n (k + 1) = q := ⟨_, rfl⟩
      rw [hX] at he KE
      rw [hY] at he b1 ⊢
      rw [hZ] at he b2
      have HZ := Lib.hid hZ
      have HX : Hid (M - Y + X = M - Z) := Lib.hid (by omega)
      clear hX hY hZ
      have q1 : 0 ≤ Y ∧ Y ≤ 281474976710656 := by omega
      have q2 : 0 ≤ M ∧ M ≤ 281474976710656 := by omega
      have q3 : 0 ≤ Z ∧ Z ≤ 281474976710656 := by omega
      have q4 : -281474976710656 ≤ X ∧ X ≤ 281474976710656 := by omega
      obtain ⟨q11, q12⟩ := q1
      obtain ⟨q21, q22⟩ := q2
      obtain ⟨q41, q42⟩ := q4
      obtain ⟨D, hD⟩ : ∃ q, M - Y = q := ⟨_, rfl⟩
      have d1 : -281474976710656 ≤ D ∧ D ≤ 281474976710656 := by omega
      obtain ⟨d11, d12⟩ := d1
      rw [hD] at HX ⊢
      clear hD he b1 b2 b3 q3
      go_wp2_with (go_at_call 66; with_reducible refine Calls.mono (KE.out _) ?_; rintro e w1 ⟨rfl, rfl⟩)
      go_round
      case rel => exact ⟨k + 1, by omega, by omega, by rw [HX.out, HZ.out], rfl⟩
      case measure => simp [intOf]; omega
    · obtain rfl : k = (n : Int) + 1 := by omega
      rw [HT.out]
      go_wp2
      go_ret
      exact ⟨ret_int (by simp), rfl⟩
end Go.Proofs.Ytgdnapioboodbaa
