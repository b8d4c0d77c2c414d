/- The walk of the law FnTails over drawn data: it returns true and writes nothing that was there. -/
import Derived.Test.YtgdnapioboodbaaThG
import Derived.Test.YtgdnapioboodbaaThF
import Derived.Test.YtgdnapioboodbaaThD
namespace Go.Proofs.Ytgdnapioboodbaa
open Go.ChangeShapes Go.WideShapes Go.ChangeAt Go.RowKit Go.Shelf Num
set_option linter.unusedVariables false
set_option linter.unusedSimpArgs false

set_option maxRecDepth 100000 in
set_option maxHeartbeats 8000000 in
theorem ltls (a0 : Option Addr) (len0 cap0 : Nat) (z0 : List Int) (w : World) (w0 : IsRow .u8 w a0 len0 cap0 z0) :
    Calls Try.prog 3 #[.slice a0 len0 cap0] w fun e w' => e = .returned (.bool true) ∧ Below w.heap.size w w' := by
  obtain ⟨hlen, hcode⟩ := Code8.of_row w0
  obtain ⟨zs, hzs⟩ : ∃ zs, z0.take len0 = zs := ⟨_, rfl⟩
  rw [hzs] at hlen hcode
  subst hlen
  clear hzs w0
  have HC := Lib.hid hcode
  clear hcode
  have HB := Lib.hid (Below.refl w.heap.size w)
  by_cases hbig : 4096 < zs.length
  · have hd : decide ((4096 : Int) < (zs.length : Int)) = true := by simp; omega
    go_enter Try.func3, Try.ntmps3
    go_wp2_with (go_at_call 14; refine (big_any _ _ _ _).mono ?_; rw [hd]; rintro e w' ⟨rfl, rfl⟩)
    go_ret
    exact ⟨rfl, Below.refl _ _⟩
  · have hd : decide ((4096 : Int) < (zs.length : Int)) = false := by simp; omega
    go_enter Try.func3, Try.ntmps3
    go_wp2_with (go_at_call 14; refine (big_any _ _ _ _).mono ?_; rw [hd]; rintro e w' ⟨rfl, rfl⟩)
    clear hd
    refine (dtc13_any _ _ _ zs ((HC.out.below HB.out (Nat.le_refl _)).more HB.out.size)).mono ?_
    rintro e w1 ⟨n, a, m, rfl, hb⟩
    replace HB := Lib.hid (bel_end HB.out hb)
    clear hb
    obtain ⟨⟨X, E⟩, hT⟩ : ∃ qq, tcT n a m = qq := ⟨_, rfl⟩
    obtain ⟨⟨Y, D⟩, hC⟩ : ∃ qq, ccT n = qq := ⟨_, rfl⟩
    obtain ⟨⟨X1, E1⟩, h1⟩ : ∃ qq, tcT n a (m + 1) = qq := ⟨_, rfl⟩
    obtain ⟨⟨X2, E2⟩, h2⟩ : ∃ qq, tcT n (a + 1) m = qq := ⟨_, rfl⟩
    have KI : Hid (∀ W : World, Calls Try.prog 16 #[.int .i64 n, .int .i64 a, .int .i64 m] W fun e w' => e = .returned (.tuple #[.int .i64 X, .int .i64 E]) ∧ Below W.heap.size W w') := Lib.hid (fun W => by have := itc_any W n a m; rwa [hT] at this)
    have KS : Hid (∀ W : World, Calls Try.prog 17 #[.int .i64 n, .int .i64 a, .int .i64 m] W fun e w' => e = .returned (.tuple #[.int .i64 X, .int .i64 E]) ∧ Below W.heap.size W w') := Lib.hid (fun W => by have := ltc_b W n a m; rwa [hT] at this)
    have CI : Hid (∀ W : World, Calls Try.prog 18 #[.int .i64 n] W fun e w' => e = .returned (.tuple #[.int .i64 Y, .int .i64 D]) ∧ Below W.heap.size W w') := Lib.hid (fun W => by have := icc_b W n; rwa [hC] at this)
    have CS : Hid (∀ W : World, Calls Try.prog 19 #[.int .i64 n] W fun e w' => e = .returned (.tuple #[.int .i64 Y, .int .i64 D]) ∧ Below W.heap.size W w') := Lib.hid (fun W => by have := lcc_b W n; rwa [hC] at this)
    have K1 : Hid (∀ W : World, Calls Try.prog 16 #[.int .i64 n, .int .i64 a, .int .i64 (m + 1)] W fun e w' => e = .returned (.tuple #[.int .i64 X1, .int .i64 E1]) ∧ Below W.heap.size W w') := Lib.hid (fun W => by have := itc_any W n a (m + 1); rwa [h1] at this)
    have K2 : Hid (∀ W : World, Calls Try.prog 16 #[.int .i64 n, .int .i64 (a + 1), .int .i64 m] W fun e w' => e = .returned (.tuple #[.int .i64 X2, .int .i64 E2]) ∧ Below W.heap.size W w') := Lib.hid (fun W => by have := itc_any W n (a + 1) m; rwa [h2] at this)
    have FA : Hid (E = 0 → (0 ≤ n ∧ n ≤ 12) ∧ (0 ≤ a ∧ a ≤ 16) ∧ (0 ≤ m ∧ m ≤ n + 1) ∧ D = 0 ∧ tcT n a 0 = (Y, D) ∧ tcT n a (n + 1) = (0, 0) ∧ (E1 = 0 → X1 ≤ X) ∧ (E2 = 0 → X ≤ X2)) := Lib.hid (fun h => by
      subst h
      obtain ⟨f1, f2, f3, f4, f5, f6, f7, f8⟩ := tc_facts hT
      rw [hC] at f4 f5
      exact ⟨f1, f2, f3, f4, f5, f6, fun h => f7 X1 (by rw [h1, h]), fun h => f8 X2 (by rw [h2, h])⟩)
    clear hT hC h1 h2
    go_wp2_with fail
    refine (KI.out _).mono ?_
    rintro e w2 ⟨rfl, hb⟩
    replace HB := Lib.hid (bel_end HB.out hb)
    clear hb
    go_wp2_with fail
    refine (KS.out _).mono ?_
    rintro e w3 ⟨rfl, hb⟩
    replace HB := Lib.hid (bel_end HB.out hb)
    clear hb
    go_wp2_with fail
    refine (CI.out _).mono ?_
    rintro e w4 ⟨rfl, hb⟩
    replace HB := Lib.hid (bel_end HB.out hb)
    clear hb
    go_wp2_with fail
    refine (CS.out _).mono ?_
    rintro e w5 ⟨rfl, hb⟩
    replace HB := Lib.hid (bel_end HB.out hb)
    clear hb
    by_cases h0 : E = 0
    case neg =>
      have hE1 : (E != 0) = true := by simpa using h0
      clear h0 FA
      go_wp2
      go_ret
      exact ⟨rfl, HB.out⟩
    case pos =>
      obtain ⟨⟨n0, n1⟩, ⟨a0, a1⟩, ⟨m0, m1⟩, rfl, hz, ht, g1, g2⟩ := FA.out h0
      subst h0
      have G1 := Lib.hid g1
      have G2 := Lib.hid g2
      have K0 : Hid (∀ W : World, Calls Try.prog 16 #[.int .i64 n, .int .i64 a, .int .i64 0] W fun e w' => e = .returned (.tuple #[.int .i64 Y, .int .i64 0]) ∧ Below W.heap.size W w') := Lib.hid (fun W => by have := itc_any W n a 0; rwa [hz] at this)
      have KN : Hid (∀ W : World, Calls Try.prog 16 #[.int .i64 n, .int .i64 a, .int .i64 (n + 1)] W fun e w' => e = .returned (.tuple #[.int .i64 0, .int .i64 0]) ∧ Below W.heap.size W w') := Lib.hid (fun W => by have := itc_any W n a (n + 1); rwa [ht] at this)
      clear hz ht g1 g2 FA
      go_wp2_with fail
      refine (K0.out _).mono ?_
      rintro e w6 ⟨rfl, hb⟩
      replace HB := Lib.hid (bel_end HB.out hb)
      clear hb
      go_wp2_with fail
      refine (KN.out _).mono ?_
      rintro e w7 ⟨rfl, hb⟩
      replace HB := Lib.hid (bel_end HB.out hb)
      clear hb
      go_wp2_with fail
      refine (K1.out _).mono ?_
      rintro e w8 ⟨rfl, hb⟩
      replace HB := Lib.hid (bel_end HB.out hb)
      clear hb
      go_wp2_with fail
      refine (K2.out _).mono ?_
      rintro e w9 ⟨rfl, hb⟩
      replace HB := Lib.hid (bel_end HB.out hb)
      clear hb
      clear n0 n1 a0 a1 m0 m1
      by_cases e1 : E1 = 0
      case pos =>
        have g1 := G1.out e1
        subst e1
        by_cases e2 : E2 = 0
        case pos =>
          have g2 := G2.out e2
          subst e2
          clear G1 G2
          go_wp2
          go_ret
          exact ⟨rfl, HB.out⟩
        case neg =>
          have e2b : (E2 != 0) = true := by simpa using e2
          clear e2
          clear G1 G2
          go_wp2
          go_ret
          exact ⟨rfl, HB.out⟩
      
      case neg =>
        have e1b : (E1 != 0) = true := by simpa using e1
        clear e1
        by_cases e2 : E2 = 0
        case pos =>
          have g2 := G2.out e2
          subst e2
          clear G1 G2
          go_wp2
          go_ret
          exact ⟨rfl, HB.out⟩
        case neg =>
          have e2b : (E2 != 0) = true := by simpa using e2
          clear e2
          clear G1 G2
          go_wp2
          go_ret
          exact ⟨rfl, HB.out⟩
end Go.Proofs.Ytgdnapioboodbaa
