/- The walks of the laws of quotients and of divisors over drawn numbers. -/
import Derived.Test.YtaamfgpdfakakaaFrom
import Derived.Test.YtaamfgpdfakakaaDivs
import Derived.Test.YtaamfgpdfakakaaCopy
namespace Go.Proofs.Ytaamfgpdfakakaa
open Go.ChangeShapes Go.WideShapes Go.ChangeAt Go.RowKit Num
set_option linter.unusedVariables false
theorem Code8.of_row {w : World} {a : Option Addr} {len cap : Nat} {zs : List Int} (h : IsRow .u8 w a len cap zs) : (zs.take len).length = len ∧ Code8 w w.heap.size a (zs.take len) := by
  obtain ⟨h1, h2, h3, h4⟩ := Ints.of_row h
  refine ⟨h2, h3, by omega, fun j hj => ?_⟩
  have hm : (zs.take len).getD j 0 ∈ zs.take len := by
    rw [List.getD_eq_getElem?_getD, List.getElem?_eq_getElem hj]; exact List.getElem_mem hj
  exact bounds_u8 (h4 _ hm)

theorem big_any (w : World) (a : Option Addr) (n c : Nat) :
    Calls Try.prog 18 #[.slice a n c] w fun e w' => e = .returned (.bool (decide (4096 < (n : Int)))) ∧ w = w' := by
  go_enter Try.func18, Try.ntmps18
  go_wp2
  go_ret
  exact ⟨rfl, rfl⟩

/-- what a draw of two numbers leaves -/
def TwoDrawn (w : World) (e : Ending) (w' : World) : Prop :=
  ∃ a b : Int, e = .returned (.tuple #[.int .i64 a, .int .i64 b]) ∧ (Lit.int .i64 a).wf = true ∧ (Lit.int .i64 b).wf = true ∧ Below w.heap.size w w'

theorem dqb_any (w : World) (a : Option Addr) (cap : Nat) (zs : List Int) (h : Code8 w w.heap.size a zs) :
    Calls Try.prog 19 #[.slice a zs.length cap] w (TwoDrawn w) := by
  have H := Lib.hid h
  clear h
  go_enter Try.func19, Try.ntmps19
  go_wp2_with fail
  refine (from_any _ _ _ zs H.out).mono ?_
  rintro e w1 ⟨s, rfl, hs, hsrc, hb⟩
  have S1 := Lib.hid hsrc
  have B1 := Lib.hid hb
  clear hsrc hb
  go_wp2_with fail
  refine (dv_any _ _ S1.out).mono ?_
  rintro e w2 ⟨x, rfl, wx, hsrc, hg⟩
  have S2 := Lib.hid hsrc
  have B2 := Lib.hid (B1.out.trans (below_of_grown hg hs B1.out.size))
  clear hsrc hg
  go_wp2_with fail
  refine (nxt_any _ _ _ S2.out).mono ?_
  rintro e w3 ⟨y, rfl, hy0, hy1, -, hsrc, hg⟩
  have S3 := Lib.hid hsrc
  have B3 := Lib.hid (B2.out.trans (below_of_grown hg hs B2.out.size))
  have hyb := hy1 (by omega)
  clear hsrc hg hy1
  by_cases hy : y = 0
  · subst hy
    go_wp2_with fail
    refine (dv_any _ _ S3.out).mono ?_
    rintro e w4 ⟨z, rfl, wz, hsrc, hg⟩
    have B4 := Lib.hid (B3.out.trans (below_of_grown hg hs B3.out.size))
    clear hsrc hg
    go_wp2
    go_ret2
    exact ⟨x, z, rfl, wx, wz, B4.out⟩
  · have hyf : (y == 0) = false := by simpa using hy
    go_wp2_with fail
    refine (nxt_any _ _ _ S3.out).mono ?_
    rintro e w4 ⟨z, rfl, hz0, hz1, -, hsrc, hg⟩
    have B4 := Lib.hid (B3.out.trans (below_of_grown hg hs B3.out.size))
    have hzb := hz1 (by omega)
    clear hsrc hg hz1
    go_wp2
    go_ret2
    exact ⟨x, z - 9, rfl, wx, wf64 (by omega) (by omega), B4.out⟩

/-- what is true of a quotient that exists -/
theorem quot_facts (a b : Int) (h : dcode a b = 0) :
    ∃ L, qlo a b = L ∧ -1000000000001 ≤ L ∧ L ≤ 1000000000000 ∧ ((qhi a b = L ∧ nqv a b = L ∧ L * b = a ∧ (a.tmod b == 0) = true) ∨
      (qhi a b = L + 1 ∧ (nqv a b = L ∨ nqv a b = L + 1) ∧ (a.tmod b == 0) = false ∧ ((0 < b → L * b ≤ a ∧ a ≤ (L + 1) * b) ∧ (b < 0 → a ≤ L * b ∧ (L + 1) * b ≤ a)))) := by
  obtain ⟨va, vb, h0⟩ := dcode_0 h
  obtain ⟨a1, a2⟩ := valB_t va
  obtain ⟨b1, b2⟩ := valB_t vb
  have hq := fdiv_bd a b
  have hr := fmod_rng a b
  have hc := cdiv_eq a b h0
  have e1 : qlo a b = a.fdiv b := by unfold qlo; rw [if_pos h]
  have e2 : qhi a b = -((-a).fdiv b) := by unfold qhi cdiv; rw [if_pos h]
  have e3 : nqv a b = near a b := by unfold nqv; rw [if_pos h]
  have ht : a.tmod b = 0 ↔ b * a.fdiv b = a := by
    constructor
    · intro ht
      rw [fdiv_same a b ht]; have := Int.mul_tdiv_add_tmod a b; omega
    · intro hm
      exact Int.tmod_eq_zero_of_dvd ⟨_, hm.symm⟩
  rw [e2, hc, e3]
  refine ⟨_, e1, by omega, by omega, ?_⟩
  unfold near
  rw [Int.mul_comm (a.fdiv b) b]
  have es : (a.fdiv b + 1) * b = b * a.fdiv b + b := by rw [Int.add_mul, Int.mul_comm]; omega
  rw [es]
  generalize a.fdiv b = q at *
  generalize b * q = p at *
  by_cases hp : p = a
  · left
    refine ⟨by rw [if_pos hp], ?_, hp, by simpa using ht.2 hp⟩
    rw [if_neg (by omega)]
  · right
    refine ⟨by rw [if_neg hp], ?_, by simpa using fun g => hp (ht.1 g), fun g => by have := hr.1 g; omega, fun g => by have := hr.2 g; omega⟩
    split <;> simp

set_option maxHeartbeats 2000000 in
theorem lquot (a0 : Option Addr) (len0 cap0 : Nat) (z0 : List Int) (w : World) (w0 : IsRow .u8 w a0 len0 cap0 z0) :
    Calls Try.prog 3 #[.slice a0 len0 cap0] w fun e w' => e = .returned (.bool true) ∧ Below w.heap.size w w' := by
  obtain ⟨hlen, hcode⟩ := Code8.of_row w0
  obtain ⟨zs, hzs⟩ : ∃ zs, z0.take len0 = zs := ⟨_, rfl⟩
  rw [hzs] at hlen hcode
  subst hlen
  clear hzs w0
  have HC := Lib.hid hcode
  clear hcode
  by_cases hbig : 4096 < zs.length
  · have hd : decide ((4096 : Int) < (zs.length : Int)) = true := by simp; omega
    go_enter Try.func3, Try.ntmps3
    go_wp2_with (go_at_call 18; refine (big_any _ _ _ _).mono ?_; rw [hd]; rintro e w' ⟨rfl, rfl⟩)
    go_ret
    exact ⟨rfl, Below.refl _ _⟩
  · have hd : decide ((4096 : Int) < (zs.length : Int)) = false := by simp; omega
    go_enter Try.func3, Try.ntmps3
    go_wp2_with (go_at_call 18; refine (big_any _ _ _ _).mono ?_; rw [hd]; rintro e w' ⟨rfl, rfl⟩)
    clear hd
    refine (dqb_any _ _ _ zs HC.out).mono ?_
    rintro e w1 ⟨a, b, rfl, wa, wb, hb⟩
    have B1 := Lib.hid hb
    clear hb wa wb
    by_cases h : dcode a b = 0
    · have HF := quot_facts a b h
      have HD := Lib.hid h
      obtain ⟨va, vb, b0⟩ := dcode_0 h
      obtain ⟨a1, a2⟩ := valB_t va
      obtain ⟨b1, b2⟩ := valB_t vb
      clear h va vb
      obtain ⟨L, hL, l1, l2, hF⟩ := HF
      have EL := Lib.hid hL
      clear hL
      rcases hF with ⟨hH, hN, hp, ht⟩ | ⟨hH, hN, ht, hp1, hp2⟩
      · have EH := Lib.hid hH
        have EN := Lib.hid hN
        clear hH hN
        have p1 : L * b ≤ a := by omega
        have p2 : a ≤ L * b := by omega
        clear hp
        by_cases hs : b < 0
        all_goals
          go_wp2_with (first | (go_at_call 20; refine (iqb_any a b _).mono ?_; rw [EL.out, EH.out, HD.out]; rintro e w' ⟨rfl, rfl⟩) | (go_at_call 21; refine (sqb_any a b _).mono ?_; rw [EL.out, EH.out, HD.out]; rintro e w' ⟨rfl, rfl⟩) | (go_at_call 22; refine (inq_any a b _).mono ?_; rw [EN.out, HD.out]; rintro e w' ⟨rfl, rfl⟩) | (go_at_call 23; refine (snq_any a b _).mono ?_; rw [EN.out, HD.out]; rintro e w' ⟨rfl, rfl⟩))
          go_ret
          exact ⟨rfl, B1.out⟩
      · have EH := Lib.hid hH
        clear hH
        have x1 : ((L + 1 : Int) == L) = false := by simp; omega
        have x2 : ((L : Int) == L + 1) = false := by simp; omega
        have hp : (0 < b ∧ L * b ≤ a ∧ a ≤ (L + 1) * b) ∨ (b < 0 ∧ a ≤ L * b ∧ (L + 1) * b ≤ a) := by
          by_cases g : 0 < b
          · exact Or.inl ⟨g, hp1 g⟩
          · have g2 : b < 0 := by omega
            exact Or.inr ⟨g2, hp2 g2⟩
        clear hp1 hp2
        rcases hN with hN | hN
        all_goals
          have EN := Lib.hid hN
          clear hN
          rcases hp with ⟨hs, p1, p2⟩ | ⟨hs, p1, p2⟩
        all_goals
          have p3 : -3000000000000 ≤ L * b ∧ L * b ≤ 3000000000000 := by
            have e : (L + 1) * b = L * b + b := by rw [Int.add_mul]; omega
            omega
          have p4 : -3000000000000 ≤ (L + 1) * b ∧ (L + 1) * b ≤ 3000000000000 := by
            have e : (L + 1) * b = L * b + b := by rw [Int.add_mul]; omega
            omega
          obtain ⟨p5, p6⟩ := p3
          obtain ⟨p7, p8⟩ := p4
          go_wp2_with (first | (go_at_call 20; refine (iqb_any a b _).mono ?_; rw [EL.out, EH.out, HD.out]; rintro e w' ⟨rfl, rfl⟩) | (go_at_call 21; refine (sqb_any a b _).mono ?_; rw [EL.out, EH.out, HD.out]; rintro e w' ⟨rfl, rfl⟩) | (go_at_call 22; refine (inq_any a b _).mono ?_; rw [EN.out, HD.out]; rintro e w' ⟨rfl, rfl⟩) | (go_at_call 23; refine (snq_any a b _).mono ?_; rw [EN.out, HD.out]; rintro e w' ⟨rfl, rfl⟩))
          go_ret
          exact ⟨rfl, B1.out⟩
    · have hb0 : (dcode a b != 0) = true := by simpa using h
      clear h
      go_wp2_with (first | (go_at_call 20; refine (iqb_any a b _).mono ?_; rintro e w' ⟨rfl, rfl⟩) | (go_at_call 21; refine (sqb_any a b _).mono ?_; rintro e w' ⟨rfl, rfl⟩) | (go_at_call 22; refine (inq_any a b _).mono ?_; rintro e w' ⟨rfl, rfl⟩) | (go_at_call 23; refine (snq_any a b _).mono ?_; rintro e w' ⟨rfl, rfl⟩))
      go_ret
      exact ⟨rfl, B1.out⟩
end Go.Proofs.Ytaamfgpdfakakaa
