/- The walk of the law of quotients over drawn numbers. -/
import Derived.Test.YthfaejhiabdkbabDrw
import Derived.Test.YthfaejhiabdkbabNear
namespace Go.Proofs.Ythfaejhiabdkbab
open Go.ChangeShapes Go.WideShapes Go.ChangeAt Go.RowKit Num
set_option linter.unusedVariables false
/-- what is true of a quotient that exists -/
theorem quot_facts (a b : Int) (h : dcode a b = 0) :
    ∃ L, qlo a b = L ∧ -1000000000001 ≤ L ∧ L ≤ 1000000000000 ∧ ((qhi a b = L ∧ nqv a b = L ∧ L * b = a ∧ (a.tmod b == 0) = true) ∨
      (qhi a b = L + 1 ∧ (nqv a b = L ∨ nqv a b = L + 1) ∧ (a.tmod b == 0) = false ∧ ((0 < b → L * b ≤ a ∧ a ≤ (L + 1) * b) ∧ (b < 0 → a ≤ L * b ∧ (L + 1) * b ≤ a)))) := by
  obtain ⟨va, vb, h0⟩ := dcode_0 h
  obtain ⟨a1, a2⟩ := valB_t va
  obtain ⟨b1, b2⟩ := valB_t vb
  have hq := fdiv_bd a b
  have hr := fmod_rng a b
  have hc := cdiv_eq a b h0
  have e1 : qlo a b = a.fdiv b := by unfold qlo; rw [if_pos h]
  have e2 : qhi a b = -((-a).fdiv b) := by unfold qhi cdiv; rw [if_pos h]
  have e3 : nqv a b = near a b := by unfold nqv; rw [if_pos h]
  have ht : a.tmod b = 0 ↔ b * a.fdiv b = a := by
    constructor
    · intro ht
      rw [fdiv_same a b ht]; have := Int.mul_tdiv_add_tmod a b; omega
    · intro hm
      exact Int.tmod_eq_zero_of_dvd ⟨_, hm.symm⟩
  rw [e2, hc, e3]
  refine ⟨_, e1, by omega, by omega, ?_⟩
  unfold near
  rw [Int.mul_comm (a.fdiv b) b]
  have es : (a.fdiv b + 1) * b = b * a.fdiv b + b := by rw [Int.add_mul, Int.mul_comm]; omega
  rw [es]
  generalize a.fdiv b = q at *
  generalize b * q = p at *
  by_cases hp : p = a
  · left
    refine ⟨by rw [if_pos hp], ?_, hp, by simpa using ht.2 hp⟩
    rw [if_neg (by omega)]
  · right
    refine ⟨by rw [if_neg hp], ?_, by simpa using fun g => hp (ht.1 g), fun g => by have := hr.1 g; omega, fun g => by have := hr.2 g; omega⟩
    split <;> simp

set_option maxHeartbeats 2000000 in
theorem lquot (a0 : Option Addr) (len0 cap0 : Nat) (z0 : List Int) (w : World) (w0 : IsRow .u8 w a0 len0 cap0 z0) :
    Calls Try.prog 4 #[.slice a0 len0 cap0] w fun e w' => e = .returned (.bool true) ∧ Below w.heap.size w w' := by
  obtain ⟨hlen, hcode⟩ := Code8.of_row w0
  obtain ⟨zs, hzs⟩ : ∃ zs, z0.take len0 = zs := ⟨_, rfl⟩
  rw [hzs] at hlen hcode
  subst hlen
  clear hzs w0
  have HC := Lib.hid hcode
  clear hcode
  by_cases hbig : 4096 < zs.length
  · have hd : decide ((4096 : Int) < (zs.length : Int)) = true := by simp; omega
    go_enter Try.func4, Try.ntmps4
    go_wp2_with (go_at_call 9; refine (big_any _ _ _ _).mono ?_; rw [hd]; rintro e w' ⟨rfl, rfl⟩)
    go_ret
    exact ⟨rfl, Below.refl _ _⟩
  · have hd : decide ((4096 : Int) < (zs.length : Int)) = false := by simp; omega
    go_enter Try.func4, Try.ntmps4
    go_wp2_with (go_at_call 9; refine (big_any _ _ _ _).mono ?_; rw [hd]; rintro e w' ⟨rfl, rfl⟩)
    clear hd
    refine (dqb_any _ _ _ zs HC.out).mono ?_
    rintro e w1 ⟨a, b, rfl, wa, wb, hb⟩
    have B1 := Lib.hid hb
    clear hb wa wb
    by_cases h : dcode a b = 0
    · have HF := quot_facts a b h
      have HD := Lib.hid h
      obtain ⟨va, vb, b0⟩ := dcode_0 h
      obtain ⟨a1, a2⟩ := valB_t va
      obtain ⟨b1, b2⟩ := valB_t vb
      clear h va vb
      obtain ⟨L, hL, l1, l2, hF⟩ := HF
      have EL := Lib.hid hL
      clear hL
      rcases hF with ⟨hH, hN, hp, ht⟩ | ⟨hH, hN, ht, hp1, hp2⟩
      · have EH := Lib.hid hH
        have EN := Lib.hid hN
        clear hH hN
        have p1 : L * b ≤ a := by omega
        have p2 : a ≤ L * b := by omega
        clear hp
        by_cases hs : b < 0
        all_goals
          go_wp2_with (first | (go_at_call 11; refine (iqb_any a b _).mono ?_; rw [EL.out, EH.out, HD.out]; rintro e w' ⟨rfl, rfl⟩) | (go_at_call 12; refine (sqb_any a b _).mono ?_; rw [EL.out, EH.out, HD.out]; rintro e w' ⟨rfl, rfl⟩) | (go_at_call 8; refine (inq_any a b _).mono ?_; rw [EN.out, HD.out]; rintro e w' ⟨rfl, rfl⟩) | (go_at_call 7; refine (snq_any a b _).mono ?_; rw [EN.out, HD.out]; rintro e w' ⟨rfl, rfl⟩))
          go_ret
          exact ⟨rfl, B1.out⟩
      · have EH := Lib.hid hH
        clear hH
        have x1 : ((L + 1 : Int) == L) = false := by simp; omega
        have x2 : ((L : Int) == L + 1) = false := by simp; omega
        have hp : (0 < b ∧ L * b ≤ a ∧ a ≤ (L + 1) * b) ∨ (b < 0 ∧ a ≤ L * b ∧ (L + 1) * b ≤ a) := by
          by_cases g : 0 < b
          · exact Or.inl ⟨g, hp1 g⟩
          · have g2 : b < 0 := by omega
            exact Or.inr ⟨g2, hp2 g2⟩
        clear hp1 hp2
        rcases hN with hN | hN
        all_goals
          have EN := Lib.hid hN
          clear hN
          rcases hp with ⟨hs, p1, p2⟩ | ⟨hs, p1, p2⟩
        all_goals
          have p3 : -3000000000000 ≤ L * b ∧ L * b ≤ 3000000000000 := by
            have e : (L + 1) * b = L * b + b := by rw [Int.add_mul]; omega
            omega
          have p4 : -3000000000000 ≤ (L + 1) * b ∧ (L + 1) * b ≤ 3000000000000 := by
            have e : (L + 1) * b = L * b + b := by rw [Int.add_mul]; omega
            omega
          obtain ⟨p5, p6⟩ := p3
          obtain ⟨p7, p8⟩ := p4
          go_wp2_with (first | (go_at_call 11; refine (iqb_any a b _).mono ?_; rw [EL.out, EH.out, HD.out]; rintro e w' ⟨rfl, rfl⟩) | (go_at_call 12; refine (sqb_any a b _).mono ?_; rw [EL.out, EH.out, HD.out]; rintro e w' ⟨rfl, rfl⟩) | (go_at_call 8; refine (inq_any a b _).mono ?_; rw [EN.out, HD.out]; rintro e w' ⟨rfl, rfl⟩) | (go_at_call 7; refine (snq_any a b _).mono ?_; rw [EN.out, HD.out]; rintro e w' ⟨rfl, rfl⟩))
          go_ret
          exact ⟨rfl, B1.out⟩
    · have hb0 : (dcode a b != 0) = true := by simpa using h
      clear h
      go_wp2_with (first | (go_at_call 11; refine (iqb_any a b _).mono ?_; rintro e w' ⟨rfl, rfl⟩) | (go_at_call 12; refine (sqb_any a b _).mono ?_; rintro e w' ⟨rfl, rfl⟩) | (go_at_call 8; refine (inq_any a b _).mono ?_; rintro e w' ⟨rfl, rfl⟩) | (go_at_call 7; refine (snq_any a b _).mono ?_; rintro e w' ⟨rfl, rfl⟩))
      go_ret
      exact ⟨rfl, B1.out⟩
end Go.Proofs.Ythfaejhiabdkbab
