/- Contracts of NearestQuotient, the program's and the model's: both hand back the nearest integer, of two the even one. -/
import Derived.Test.YthfaejhiabdkbaaBas
import Derived.Deep.QuietTactic
import Derived.BigQuiet
namespace Go.Proofs.Ythfaejhiabdkbaa
open Go.ChangeShapes Go.WideShapes Go.ChangeAt Go.RowKit Num
set_option linter.unusedVariables false
/-- the nearest integer of a / b, of two the even one -/
def near (a b : Int) : Int := if (b.natAbs : Int) < 2 * ((a - a.fdiv b * b).natAbs : Int) ∨ (2 * ((a - a.fdiv b * b).natAbs : Int) = b.natAbs ∧ a.fdiv b % 2 = 1) then a.fdiv b + 1 else a.fdiv b
def nqv (a b : Int) : Int := if dcode a b = 0 then near a b else 0
theorem near_neg (a b : Int) : near (-a) (-b) = near a b := by
  unfold near
  rw [Int.neg_fdiv_neg, Int.natAbs_neg]
  have : (-a - a.fdiv b * -b).natAbs = (a - a.fdiv b * b).natAbs := by rw [Int.mul_neg]; omega
  rw [this]

theorem inn_any (a b : Int) (a1 : -3000000000000000 ≤ a) (a2 : a ≤ 3000000000000000) (h0 : ¬ b = 0) (b1 : -3000000000000000 ≤ b) (b2 : b ≤ 3000000000000000) (w : World) :
    Calls Try.prog 56 #[.int .i64 a, .int .i64 b] w fun e w' => e = .returned (.int .i64 (near a b)) ∧ w = w' := by
  have hq := fdiv_bd a b
  have hm := fdiv_mul_bd a b h0
  have HE : Hid (near a b = if (b.natAbs : Int) < 2 * ((a - a.fdiv b * b).natAbs : Int) ∨ (2 * ((a - a.fdiv b * b).natAbs : Int) = b.natAbs ∧ a.fdiv b % 2 = 1) then a.fdiv b + 1 else a.fdiv b) := Lib.hid rfl
  rw [Int.mul_comm] at hm
  obtain ⟨q, hqe⟩ : ∃ q, a.fdiv b = q := ⟨_, rfl⟩
  rw [hqe] at hq hm HE
  have HQ := Lib.hid hqe
  have q1 : -3000000000000001 ≤ q := by omega
  have q2 : q ≤ 3000000000000000 := by omega
  have m1 : -9000000000000000 ≤ q * b := by omega
  have m2 : q * b ≤ 9000000000000000 := by omega
  clear hq hm hqe
  have hc : (b.natAbs : Int) < 2 * ((a - q * b).natAbs : Int) ∨ (2 * ((a - q * b).natAbs : Int) < (b.natAbs : Int)) ∨ 2 * ((a - q * b).natAbs : Int) = (b.natAbs : Int) := by omega
  rcases hc with hc | hc | hc
  · have ht : (((a - q * b).natAbs : Int) == (b.natAbs : Int) - ((a - q * b).natAbs : Int)) = false := by simp; omega
    go_enter Try.func56, Try.ntmps56
    go_wp2_with (first | (go_at_call 58; refine (fq_any _ _ (by omega) (by omega) (by omega) (by omega) h0 _).mono ?_; rw [HQ.out]; rintro e w' ⟨rfl, rfl⟩) | (go_at_call 41; refine (abs_any _ (by omega) (by omega) _).mono ?_; rintro e w' ⟨rfl, rfl⟩))
    go_ret
    exact ⟨ret_int (by rw [HE.out, if_pos (Or.inl hc)]), rfl⟩
  · have ht : (((a - q * b).natAbs : Int) == (b.natAbs : Int) - ((a - q * b).natAbs : Int)) = false := by simp; omega
    go_enter Try.func56, Try.ntmps56
    go_wp2_with (first | (go_at_call 58; refine (fq_any _ _ (by omega) (by omega) (by omega) (by omega) h0 _).mono ?_; rw [HQ.out]; rintro e w' ⟨rfl, rfl⟩) | (go_at_call 41; refine (abs_any _ (by omega) (by omega) _).mono ?_; rintro e w' ⟨rfl, rfl⟩))
    go_ret
    exact ⟨ret_int (by rw [HE.out, if_neg (by omega)]), rfl⟩
  · have ht : (((a - q * b).natAbs : Int) == (b.natAbs : Int) - ((a - q * b).natAbs : Int)) = true := by simp; omega
    have HC := Lib.hid hc
    have hc1 : 2 * ((a - q * b).natAbs : Int) ≤ (b.natAbs : Int) := by omega
    clear hc
    by_cases hp : q % 2 = 1
    · have hp2 := tmod2_t q hp
      have HP := Lib.hid hp
      clear hp
      go_enter Try.func56, Try.ntmps56
      go_wp2_with (first | (go_at_call 58; refine (fq_any _ _ (by omega) (by omega) (by omega) (by omega) h0 _).mono ?_; rw [HQ.out]; rintro e w' ⟨rfl, rfl⟩) | (go_at_call 41; refine (abs_any _ (by omega) (by omega) _).mono ?_; rintro e w' ⟨rfl, rfl⟩))
      go_ret
      exact ⟨ret_int (by rw [HE.out, if_pos (Or.inr ⟨HC.out, HP.out⟩)]), rfl⟩
    · have hp2 := tmod2_f q (by omega)
      have HP := Lib.hid hp
      clear hp
      go_enter Try.func56, Try.ntmps56
      go_wp2_with (first | (go_at_call 58; refine (fq_any _ _ (by omega) (by omega) (by omega) (by omega) h0 _).mono ?_; rw [HQ.out]; rintro e w' ⟨rfl, rfl⟩) | (go_at_call 41; refine (abs_any _ (by omega) (by omega) _).mono ?_; rintro e w' ⟨rfl, rfl⟩))
      go_ret
      exact ⟨ret_int (by rw [HE.out, if_neg (by rintro (h | h); have hc := HC.out; omega; exact HP.out h.2)]), rfl⟩
theorem fd2_t (q : Int) (h : q % 2 = 1) : (q.fdiv 2 * 2 != q) = true := by
  rw [Int.fdiv_eq_ediv_of_nonneg _ (by omega)]; simp; omega
theorem fd2_f (q : Int) (h : q % 2 = 0) : (q.fdiv 2 * 2 != q) = false := by
  rw [Int.fdiv_eq_ediv_of_nonneg _ (by omega)]; simp; omega
theorem fd2_bd (q : Int) (h : -9000000000000000 ≤ q) (g : q ≤ 9000000000000000) : -9000000000000000 ≤ q.fdiv 2 ∧ q.fdiv 2 ≤ 9000000000000000 := by
  rw [Int.fdiv_eq_ediv_of_nonneg _ (by omega)]; omega
theorem lnr_pos (a b : Int) (a1 : -3000000000000000 ≤ a) (a2 : a ≤ 3000000000000000) (b1 : 0 < b) (b2 : b ≤ 3000000000000000) (w : World) :
    Calls Try.prog 53 #[.int .i64 a, .int .i64 b] w fun e w' => e = .returned (.int .i64 (near a b)) ∧ w = w' := by
  have hq := fdiv_bd (a) (b)
  have hm := fdiv_mul_bd (a) (b) (by omega)
  have hr := (fmod_rng (a) (b)).1 (by omega)
  have HE : Hid (near a b = if (b.natAbs : Int) < 2 * ((a - a.fdiv b * b).natAbs : Int) ∨ (2 * ((a - a.fdiv b * b).natAbs : Int) = b.natAbs ∧ a.fdiv b % 2 = 1) then a.fdiv b + 1 else a.fdiv b) := Lib.hid rfl
  rw [Int.mul_comm] at hm hr
  obtain ⟨q, hqe⟩ : ∃ q, a.fdiv b = q := ⟨_, rfl⟩
  rw [hqe] at hq hm hr
  have HQ := Lib.hid hqe
  rw [hqe] at HE
  have q1 : -3000000000000001 ≤ q := by omega
  have q2 : q ≤ 3000000000000001 := by omega
  have m1 : -6000000000000001 ≤ q * b := by omega
  have m2 : q * b ≤ 6000000000000001 := by omega
  have qf := fd2_bd q (by omega) (by omega)
  obtain ⟨f1, f2⟩ := qf
  obtain ⟨r1, r2⟩ := hr
  clear hq hm hqe
  rcases Int.lt_trichotomy (2 * (a - q * b) - b) 0 with hc | hc | hc
  · have hb : (2 * (a - q * b) - b == 0) = false := by simp; omega
    go_enter Try.func53, Try.ntmps53
    go_wp2_with (first | (go_at_call 57; refine (lfl_any _ _ (by omega) (by omega) (by omega) (by omega) (by omega) _).mono ?_; (try rw [HQ.out]); rintro e w' ⟨rfl, rfl⟩))
    go_ret
    exact ⟨ret_int (by rw [HE.out, if_neg (by omega)]), rfl⟩
  · have hb : (2 * (a - q * b) - b == 0) = true := by simp; omega
    have hc1 : 2 * (a - q * b) - b ≤ 0 := by omega
    have HC := Lib.hid hc; clear hc
    by_cases hp : q % 2 = 1
    · have hp2 := fd2_t q hp
      have HP := Lib.hid hp; clear hp
      have g1 : -18000000000000001 ≤ q.fdiv 2 * 2 := by omega
      have g2 : q.fdiv 2 * 2 ≤ 18000000000000001 := by omega
      go_enter Try.func53, Try.ntmps53
      go_wp2_with (first | (go_at_call 57; refine (lfl_any _ _ (by omega) (by omega) (by omega) (by omega) (by omega) _).mono ?_; (try rw [HQ.out]); rintro e w' ⟨rfl, rfl⟩))
      go_ret
      exact ⟨ret_int (by rw [HE.out, if_pos (by refine Or.inr ⟨?_, HP.out⟩; have hc := HC.out; omega)]), rfl⟩
    · have hp2 := fd2_f q (by omega)
      have HP := Lib.hid hp; clear hp
      go_enter Try.func53, Try.ntmps53
      go_wp2_with (first | (go_at_call 57; refine (lfl_any _ _ (by omega) (by omega) (by omega) (by omega) (by omega) _).mono ?_; (try rw [HQ.out]); rintro e w' ⟨rfl, rfl⟩))
      go_ret
      exact ⟨ret_int (by rw [HE.out, if_neg (by rintro (h | h); have hc := HC.out; omega; exact HP.out h.2)]), rfl⟩
  · have hb : (2 * (a - q * b) - b == 0) = false := by simp; omega
    go_enter Try.func53, Try.ntmps53
    go_wp2_with (first | (go_at_call 57; refine (lfl_any _ _ (by omega) (by omega) (by omega) (by omega) (by omega) _).mono ?_; (try rw [HQ.out]); rintro e w' ⟨rfl, rfl⟩))
    go_ret
    exact ⟨ret_int (by rw [HE.out, if_pos (by left; omega)]), rfl⟩
theorem lnr_neg (a b : Int) (a1 : -3000000000000000 ≤ a) (a2 : a ≤ 3000000000000000) (b1 : b < 0) (b2 : -3000000000000000 ≤ b) (w : World) :
    Calls Try.prog 53 #[.int .i64 a, .int .i64 b] w fun e w' => e = .returned (.int .i64 (near a b)) ∧ w = w' := by
  have hq := fdiv_bd (-a) (-b)
  have hm := fdiv_mul_bd (-a) (-b) (by omega)
  have hr := (fmod_rng (-a) (-b)).1 (by omega)
  have HE : Hid (near a b = if (b.natAbs : Int) < 2 * ((a - a.fdiv b * b).natAbs : Int) ∨ (2 * ((a - a.fdiv b * b).natAbs : Int) = b.natAbs ∧ a.fdiv b % 2 = 1) then a.fdiv b + 1 else a.fdiv b) := Lib.hid rfl
  rw [Int.mul_comm] at hm hr
  obtain ⟨q, hqe⟩ : ∃ q, (-a).fdiv (-b) = q := ⟨_, rfl⟩
  rw [hqe] at hq hm hr
  have HQ := Lib.hid hqe
  rw [Int.neg_fdiv_neg] at hqe
  rw [hqe] at HE
  have en : q * -b = -(q * b) := Int.mul_neg q b
  have HEN := Lib.hid en
  have q1 : -3000000000000001 ≤ q := by omega
  have q2 : q ≤ 3000000000000001 := by omega
  have m1 : -6000000000000001 ≤ q * -b := by omega
  have m2 : q * -b ≤ 6000000000000001 := by omega
  have qf := fd2_bd q (by omega) (by omega)
  obtain ⟨f1, f2⟩ := qf
  obtain ⟨r1, r2⟩ := hr
  clear hq hm hqe en
  rcases Int.lt_trichotomy (2 * (-a - q * -b) + b) 0 with hc | hc | hc
  · have hb : (2 * (-a - q * -b) + b == 0) = false := by simp; omega
    go_enter Try.func53, Try.ntmps53
    go_wp2_with (first | (go_at_call 57; refine (lfl_any _ _ (by omega) (by omega) (by omega) (by omega) (by omega) _).mono ?_; (try rw [HQ.out]); rintro e w' ⟨rfl, rfl⟩))
    go_ret
    exact ⟨ret_int (by rw [HE.out, if_neg (by have en := HEN.out; omega)]), rfl⟩
  · have hb : (2 * (-a - q * -b) + b == 0) = true := by simp; omega
    have hc1 : 2 * (-a - q * -b) + b ≤ 0 := by omega
    have HC := Lib.hid hc; clear hc
    by_cases hp : q % 2 = 1
    · have hp2 := fd2_t q hp
      have HP := Lib.hid hp; clear hp
      have g1 : -18000000000000001 ≤ q.fdiv 2 * 2 := by omega
      have g2 : q.fdiv 2 * 2 ≤ 18000000000000001 := by omega
      go_enter Try.func53, Try.ntmps53
      go_wp2_with (first | (go_at_call 57; refine (lfl_any _ _ (by omega) (by omega) (by omega) (by omega) (by omega) _).mono ?_; (try rw [HQ.out]); rintro e w' ⟨rfl, rfl⟩))
      go_ret
      exact ⟨ret_int (by rw [HE.out, if_pos (by refine Or.inr ⟨?_, HP.out⟩; have hc := HC.out; have en := HEN.out; omega)]), rfl⟩
    · have hp2 := fd2_f q (by omega)
      have HP := Lib.hid hp; clear hp
      go_enter Try.func53, Try.ntmps53
      go_wp2_with (first | (go_at_call 57; refine (lfl_any _ _ (by omega) (by omega) (by omega) (by omega) (by omega) _).mono ?_; (try rw [HQ.out]); rintro e w' ⟨rfl, rfl⟩))
      go_ret
      exact ⟨ret_int (by rw [HE.out, if_neg (by rintro (h | h); have hc := HC.out; have en := HEN.out; omega; exact HP.out h.2)]), rfl⟩
  · have hb : (2 * (-a - q * -b) + b == 0) = false := by simp; omega
    go_enter Try.func53, Try.ntmps53
    go_wp2_with (first | (go_at_call 57; refine (lfl_any _ _ (by omega) (by omega) (by omega) (by omega) (by omega) _).mono ?_; (try rw [HQ.out]); rintro e w' ⟨rfl, rfl⟩))
    go_ret
    exact ⟨ret_int (by rw [HE.out, if_pos (by left; have en := HEN.out; omega)]), rfl⟩
theorem lnr_any (a b : Int) (a1 : -3000000000000000 ≤ a) (a2 : a ≤ 3000000000000000) (b0 : ¬ b = 0) (b1 : -3000000000000000 ≤ b) (b2 : b ≤ 3000000000000000) (w : World) :
    Calls Try.prog 53 #[.int .i64 a, .int .i64 b] w fun e w' => e = .returned (.int .i64 (near a b)) ∧ w = w' := by
  by_cases h : 0 < b
  · exact lnr_pos a b a1 a2 h b2 w
  · exact lnr_neg a b a1 a2 (by omega) b1 w
end Go.Proofs.Ythfaejhiabdkbaa
