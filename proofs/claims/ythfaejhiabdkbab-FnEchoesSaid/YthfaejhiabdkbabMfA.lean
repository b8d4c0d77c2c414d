/- Contracts of matched filters' small functions, the program's and the model's: traces, thresholds, errors of a match, matches, weights. -/
import Derived.Test.YthfaejhiabdkbabMfM
import Derived.Test.YthfaejhiabdkbabPuL
namespace Go.Proofs.Ythfaejhiabdkbab
open Go.ChangeShapes Go.WideShapes Go.ChangeAt Go.RowKit Go.Shelf Num
set_option linter.unusedVariables false
set_option linter.unusedSimpArgs false
theorem ith_any (w : World) (x : Int) :
    Calls Try.prog 48 #[.int .i64 x] w fun e w' => e = .returned (.bool (hasB 1 1000000000000 x)) ∧ w = w' := by
  by_cases h1 : 1 ≤ x
  · by_cases h2 : x ≤ 1000000000000
    · go_enter Try.func48, Try.ntmps48
      go_wp2
      go_ret
      exact ⟨ret_bool (by unfold hasB; rw [decide_eq_true h1, decide_eq_true h2]; rfl), rfl⟩
    · go_enter Try.func48, Try.ntmps48
      go_wp2
      go_ret
      exact ⟨ret_bool (by unfold hasB; rw [decide_eq_true (by omega), decide_eq_false (by omega)]; rfl), rfl⟩
  · go_enter Try.func48, Try.ntmps48
    go_wp2
    go_ret
    exact ⟨ret_bool (by unfold hasB; rw [decide_eq_false (by omega)]; rfl), rfl⟩
theorem ino_any (w : World) (x : Int) :
    Calls Try.prog 58 #[.int .i64 x] w fun e w' => e = .returned (.bool (hasB 0 1000 x)) ∧ w = w' := by
  by_cases h1 : 0 ≤ x
  · by_cases h2 : x ≤ 1000
    · go_enter Try.func58, Try.ntmps58
      go_wp2
      go_ret
      exact ⟨ret_bool (by unfold hasB; rw [decide_eq_true h1, decide_eq_true h2]; rfl), rfl⟩
    · go_enter Try.func58, Try.ntmps58
      go_wp2
      go_ret
      exact ⟨ret_bool (by unfold hasB; rw [decide_eq_true (by omega), decide_eq_false (by omega)]; rfl), rfl⟩
  · go_enter Try.func58, Try.ntmps58
    go_wp2
    go_ret
    exact ⟨ret_bool (by unfold hasB; rw [decide_eq_false (by omega)]; rfl), rfl⟩
set_option maxHeartbeats 1000000 in
theorem imq_any (w : World) (a b : Option Addr) (c d : Nat) (ss ps : List Int) (l1 : ss.length ≤ 1048576) (l2 : ps.length ≤ 1048576) (hz : Ints .i64 w w.heap.size a ss) (hy : Ints .i64 w w.heap.size b ps) :
    Calls Try.prog 47 #[.slice a ss.length c, .slice b ps.length d] w fun e w' => e = .returned (.int .i64 (mtC ss ps)) ∧ Below w.heap.size w w' := by
  have HZ := Lib.hid hz
  have HY := Lib.hid hy
  clear hz hy
  cases hs : sigB ss
  case false =>
    have H1 : Hid (mtC ss ps = 1) := Lib.hid (by unfold mtC; rw [hs]; rfl)
    go_enter Try.func47, Try.ntmps47
    go_wp2_with fail
    refine (isg_any _ _ _ ss (by omega) HZ.out).mono ?_
    rw [hs]
    rintro e w1 ⟨rfl, hb⟩
    have HB := Lib.hid hb
    clear hb
    go_wp2
    go_ret
    exact ⟨ret_int H1.out.symm, HB.out⟩
  case true =>
    cases hp : sigB ps
    case false =>
      have H1 : Hid (mtC ss ps = 1) := Lib.hid (by unfold mtC; rw [hs, hp]; rfl)
      go_enter Try.func47, Try.ntmps47
      go_wp2_with fail
      refine (isg_any _ _ _ ss (by omega) HZ.out).mono ?_
      rw [hs]
      rintro e w1 ⟨rfl, hb⟩
      have HB := Lib.hid hb
      have HY1 := Lib.hid ((HY.out.below hb).more hb.size)
      clear hb
      go_wp2_with fail
      refine (isg_any _ _ _ ps (by omega) HY1.out).mono ?_
      rw [hp]
      rintro e w2 ⟨rfl, hb⟩
      replace HB := Lib.hid (bel_end HB.out hb)
      clear hb
      go_wp2
      go_ret
      exact ⟨ret_int H1.out.symm, HB.out⟩
    case true =>
      have HC : Hid (mtC ss ps = if decide (ps.length = 0) || decide (ss.length < ps.length) then 5 else 0) := Lib.hid (by unfold mtC; rw [hs, hp]; rfl)
      obtain ⟨n, hn⟩ : ∃ n, ss.length = n := ⟨_, rfl⟩
      obtain ⟨m, hm⟩ : ∃ m, ps.length = m := ⟨_, rfl⟩
      have K1 : Hid (∀ W : World, Ints .i64 W W.heap.size a ss → Calls Try.prog 53 #[.slice a n c] W fun e w' => e = .returned (.bool true) ∧ Below W.heap.size W w') := Lib.hid (fun W h => by have := isg_any W a c ss (by omega) h; rwa [hs, hn] at this)
      have K2 : Hid (∀ W : World, Ints .i64 W W.heap.size b ps → Calls Try.prog 53 #[.slice b m d] W fun e w' => e = .returned (.bool true) ∧ Below W.heap.size W w') := Lib.hid (fun W h => by have := isg_any W b d ps (by omega) h; rwa [hp, hm] at this)
      rw [hn, hm] at HC ⊢
      rw [hn] at l1
      rw [hm] at l2
      clear hn hm hs hp
      by_cases h0 : m = 0
      case pos =>
        subst h0
        have H1 : Hid (mtC ss ps = 5) := Lib.hid (by rw [HC.out]; rfl)
        go_enter Try.func47, Try.ntmps47
        go_wp2_with fail
        refine (K1.out _ HZ.out).mono ?_
        rintro e w1 ⟨rfl, hb⟩
        have HB := Lib.hid hb
        have HY1 := Lib.hid ((HY.out.below hb).more hb.size)
        clear hb
        go_wp2_with fail
        refine (K2.out _ HY1.out).mono ?_
        rintro e w2 ⟨rfl, hb⟩
        replace HB := Lib.hid (bel_end HB.out hb)
        clear hb
        go_wp2
        go_ret
        exact ⟨ret_int H1.out.symm, HB.out⟩
      case neg =>
        have hm0 : ((m : Int) == 0) = false := by simp; omega
        by_cases hlt : n < m
        case pos =>
          have H1 : Hid (mtC ss ps = 5) := Lib.hid (by rw [HC.out, decide_eq_true hlt, Bool.or_true]; rfl)
          replace h0 := Lib.hid h0
          go_enter Try.func47, Try.ntmps47
          go_wp2_with fail
          refine (K1.out _ HZ.out).mono ?_
          rintro e w1 ⟨rfl, hb⟩
          have HB := Lib.hid hb
          have HY1 := Lib.hid ((HY.out.below hb).more hb.size)
          clear hb
          go_wp2_with fail
          refine (K2.out _ HY1.out).mono ?_
          rintro e w2 ⟨rfl, hb⟩
          replace HB := Lib.hid (bel_end HB.out hb)
          clear hb
          go_wp2
          go_ret
          exact ⟨ret_int H1.out.symm, HB.out⟩
        case neg =>
          have H1 : Hid (mtC ss ps = 0) := Lib.hid (by rw [HC.out, decide_eq_false h0, decide_eq_false hlt]; rfl)
          replace h0 := Lib.hid h0
          go_enter Try.func47, Try.ntmps47
          go_wp2_with fail
          refine (K1.out _ HZ.out).mono ?_
          rintro e w1 ⟨rfl, hb⟩
          have HB := Lib.hid hb
          have HY1 := Lib.hid ((HY.out.below hb).more hb.size)
          clear hb
          go_wp2_with fail
          refine (K2.out _ HY1.out).mono ?_
          rintro e w2 ⟨rfl, hb⟩
          replace HB := Lib.hid (bel_end HB.out hb)
          clear hb
          go_wp2
          go_ret
          exact ⟨ret_int H1.out.symm, HB.out⟩
set_option maxHeartbeats 1000000 in
theorem smc_any (w : World) (B B' : Nat) (a b : Option Addr) (c d : Nat) (ss ps : List Int) (l1 : ss.length ≤ 1048576) (l2 : ps.length ≤ 1048576) (hz : Ints .i64 w B a ss) (hy : Ints .i64 w B' b ps) :
    Calls Try.prog 39 #[.slice a ss.length c, .slice b ps.length d] w fun e w' => e = .returned (.int .i64 (mtC ss ps)) ∧ w = w' := by
  have HC : Hid (mtC ss ps = if sigB ss && sigB ps then (if decide (ps.length = 0) || decide (ss.length < ps.length) then 5 else 0) else 1) := Lib.hid rfl
  obtain ⟨n, hn⟩ : ∃ n, ss.length = n := ⟨_, rfl⟩
  obtain ⟨m, hm⟩ : ∃ m, ps.length = m := ⟨_, rfl⟩
  have K1 : Hid (Calls Try.prog 46 #[.slice a n c] w fun e w' => e = .returned (.bool (sigB ss)) ∧ w = w') := Lib.hid (by have := ssg_any w B a c ss (by omega) hz; rwa [hn] at this)
  have K2 : Hid (Calls Try.prog 46 #[.slice b m d] w fun e w' => e = .returned (.bool (sigB ps)) ∧ w = w') := Lib.hid (by have := ssg_any w B' b d ps (by omega) hy; rwa [hm] at this)
  rw [hn, hm] at HC ⊢
  rw [hn] at l1
  rw [hm] at l2
  clear hn hm hz hy
  cases hs : sigB ss
  case false =>
    rw [hs] at K1 HC
    have H1 : Hid (mtC ss ps = 1) := Lib.hid HC.out
    go_enter Try.func39, Try.ntmps39
    go_wp2_with (go_at_call 46; refine K1.out.mono ?_; rintro e w' ⟨rfl, rfl⟩)
    go_ret
    exact ⟨ret_int H1.out.symm, rfl⟩
  case true =>
    cases hp : sigB ps
    case false =>
      rw [hs] at K1
      rw [hs, hp] at HC
      rw [hp] at K2
      have H1 : Hid (mtC ss ps = 1) := Lib.hid HC.out
      go_enter Try.func39, Try.ntmps39
      go_wp2_with (first | (go_at_call 46; with_reducible refine Calls.mono K1.out ?_; rintro e w' ⟨rfl, rfl⟩) | (go_at_call 46; with_reducible refine Calls.mono K2.out ?_; rintro e w' ⟨rfl, rfl⟩))
      go_ret
      exact ⟨ret_int H1.out.symm, rfl⟩
    case true =>
      rw [hs] at K1
      rw [hs, hp] at HC
      rw [hp] at K2
      replace HC : Hid (mtC ss ps = if decide (m = 0) || decide (n < m) then 5 else 0) := Lib.hid HC.out
      clear hs hp
      by_cases h0 : m = 0
      case pos =>
        subst h0
        have H1 : Hid (mtC ss ps = 5) := Lib.hid (by rw [HC.out]; rfl)
        go_enter Try.func39, Try.ntmps39
        go_wp2_with (first | (go_at_call 46; with_reducible refine Calls.mono K1.out ?_; rintro e w' ⟨rfl, rfl⟩) | (go_at_call 46; with_reducible refine Calls.mono K2.out ?_; rintro e w' ⟨rfl, rfl⟩))
        go_ret
        exact ⟨ret_int H1.out.symm, rfl⟩
      case neg =>
        have hm0 : ((m : Int) == 0) = false := by simp; omega
        by_cases hlt : n < m
        case pos =>
          have H1 : Hid (mtC ss ps = 5) := Lib.hid (by rw [HC.out, decide_eq_true hlt, Bool.or_true]; rfl)
          replace h0 := Lib.hid h0
          go_enter Try.func39, Try.ntmps39
          go_wp2_with (first | (go_at_call 46; with_reducible refine Calls.mono K1.out ?_; rintro e w' ⟨rfl, rfl⟩) | (go_at_call 46; with_reducible refine Calls.mono K2.out ?_; rintro e w' ⟨rfl, rfl⟩))
          go_ret
          exact ⟨ret_int H1.out.symm, rfl⟩
        case neg =>
          have H1 : Hid (mtC ss ps = 0) := Lib.hid (by rw [HC.out, decide_eq_false h0, decide_eq_false hlt]; rfl)
          replace h0 := Lib.hid h0
          go_enter Try.func39, Try.ntmps39
          go_wp2_with (first | (go_at_call 46; with_reducible refine Calls.mono K1.out ?_; rintro e w' ⟨rfl, rfl⟩) | (go_at_call 46; with_reducible refine Calls.mono K2.out ?_; rintro e w' ⟨rfl, rfl⟩))
          go_ret
          exact ⟨ret_int H1.out.symm, rfl⟩
end Go.Proofs.Ythfaejhiabdkbab
